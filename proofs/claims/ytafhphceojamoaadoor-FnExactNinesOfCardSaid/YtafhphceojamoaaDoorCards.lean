/-
  DERIVED. GIVEN WITH THE SEED: THE CARDS: each row of YtafhphceojamoaaDoorRows.lean that lists a variable, with what it lists TIED to the program's text (the seventh form; the later family's looks); each row that meets fmt, with fmt's text TOLD by the authors' own Lean function (tested against real Go, not proved from fmt's source: count such statements apart). THE CARD IS WHAT COUNTS. Prove the row's statement (the work); the ties are given (YtafhphceojamoaaDoorTie.lean); close each card by the builder's one call (the guide's Derived/Test/ToyasCard.lean, 'card_holds'). Laid BY PROGRAM, IN A SANDBOX (cutbox-door.mjs). By AI agents, Wed Nov 11 2026. No macro, syntax, notation, axiom, sorry.
-/
import Derived.Test.YtafhphceojamoaaDoorRows
import GoSem.ClaimSeven
namespace Go.Proofs.YtafhphceojamoaaDoor
namespace Rows

/-- THE TIED CARD OF 'laws.FnExactOutageOf'. -/
def fnExactOutageOfCard : Claim7 := { stood := { row := fnExactOutageOfRow, standIns := [], harness := (true, "2d193d0249f48ae2d1964fb6ea931e26c5f49807d326462f51d3ba85b8e93c57"), looks := false }, kinds := [], alts := [], laidByText := true, laidKinds := [.data], laidTests := true, laidLooks := .later }
def FnExactOutageOfCardSaid : Prop := Claim7.holds Tryd.pinned (.plain (OpenSpec.ofChange fnExactOutageOfSpec)) fnExactOutageOfCard

/-- THE TIED CARD OF 'laws.FnExactMarginFor'. -/
def fnExactMarginForCard : Claim7 := { stood := { row := fnExactMarginForRow, standIns := [], harness := (true, "2d193d0249f48ae2d1964fb6ea931e26c5f49807d326462f51d3ba85b8e93c57"), looks := false }, kinds := [], alts := [], laidByText := true, laidKinds := [.data], laidTests := true, laidLooks := .later }
def FnExactMarginForCardSaid : Prop := Claim7.holds Tryd.pinned (.plain (OpenSpec.ofChange fnExactMarginForSpec)) fnExactMarginForCard

/-- THE TIED CARD OF 'laws.FnExactExceedanceOf'. -/
def fnExactExceedanceOfCard : Claim7 := { stood := { row := fnExactExceedanceOfRow, standIns := [], harness := (true, "2d193d0249f48ae2d1964fb6ea931e26c5f49807d326462f51d3ba85b8e93c57"), looks := false }, kinds := [], alts := [], laidByText := true, laidKinds := [.data], laidTests := true, laidLooks := .later }
def FnExactExceedanceOfCardSaid : Prop := Claim7.holds Tryd.pinned (.plain (OpenSpec.ofChange fnExactExceedanceOfSpec)) fnExactExceedanceOfCard

/-- THE TIED CARD OF 'laws.FnExactRainOutage'. -/
def fnExactRainOutageCard : Claim7 := { stood := { row := fnExactRainOutageRow, standIns := [], harness := (true, "2d193d0249f48ae2d1964fb6ea931e26c5f49807d326462f51d3ba85b8e93c57"), looks := false }, kinds := [], alts := [], laidByText := true, laidKinds := [.data], laidTests := true, laidLooks := .later }
def FnExactRainOutageCardSaid : Prop := Claim7.holds Tryd.pinned (.plain (OpenSpec.ofChange fnExactRainOutageSpec)) fnExactRainOutageCard

/-- THE TIED CARD OF 'laws.FnExactSeriesOutage'. -/
def fnExactSeriesOutageCard : Claim7 := { stood := { row := fnExactSeriesOutageRow, standIns := [], harness := (true, "2d193d0249f48ae2d1964fb6ea931e26c5f49807d326462f51d3ba85b8e93c57"), looks := false }, kinds := [], alts := [], laidByText := true, laidKinds := [.data], laidTests := true, laidLooks := .later }
def FnExactSeriesOutageCardSaid : Prop := Claim7.holds Tryd.pinned (.plain (OpenSpec.ofChange fnExactSeriesOutageSpec)) fnExactSeriesOutageCard

/-- THE TIED CARD OF 'laws.FnExactParallelOutage'. -/
def fnExactParallelOutageCard : Claim7 := { stood := { row := fnExactParallelOutageRow, standIns := [], harness := (true, "2d193d0249f48ae2d1964fb6ea931e26c5f49807d326462f51d3ba85b8e93c57"), looks := false }, kinds := [], alts := [], laidByText := true, laidKinds := [.data], laidTests := true, laidLooks := .later }
def FnExactParallelOutageCardSaid : Prop := Claim7.holds Tryd.pinned (.plain (OpenSpec.ofChange fnExactParallelOutageSpec)) fnExactParallelOutageCard

/-- THE TIED CARD OF 'laws.FnExactDownTime'. -/
def fnExactDownTimeCard : Claim7 := { stood := { row := fnExactDownTimeRow, standIns := [], harness := (true, "2d193d0249f48ae2d1964fb6ea931e26c5f49807d326462f51d3ba85b8e93c57"), looks := false }, kinds := [], alts := [], laidByText := true, laidKinds := [.data], laidTests := true, laidLooks := .later }
def FnExactDownTimeCardSaid : Prop := Claim7.holds Tryd.pinned (.plain (OpenSpec.ofChange fnExactDownTimeSpec)) fnExactDownTimeCard

/-- THE TIED CARD OF 'laws.FnExactNinesOf'. -/
def fnExactNinesOfCard : Claim7 := { stood := { row := fnExactNinesOfRow, standIns := [], harness := (true, "2d193d0249f48ae2d1964fb6ea931e26c5f49807d326462f51d3ba85b8e93c57"), looks := false }, kinds := [], alts := [], laidByText := true, laidKinds := [.data], laidTests := true, laidLooks := .later }
def FnExactNinesOfCardSaid : Prop := Claim7.holds Tryd.pinned (.plain (OpenSpec.ofChange fnExactNinesOfSpec)) fnExactNinesOfCard

/-- THE TIED CARD OF 'laws.FnExactPathText'. -/
def fnExactPathTextCard : Claim7 := { stood := { row := fnExactPathTextRow, standIns := [], harness := (true, "2d193d0249f48ae2d1964fb6ea931e26c5f49807d326462f51d3ba85b8e93c57"), looks := false }, kinds := [], alts := [], laidByText := true, laidKinds := [.data, .data, .data], laidTests := true, laidLooks := .later }
def FnExactPathTextCardSaid : Prop := Claim7.holds Tryd.pinned (.plain (OpenSpec.ofChange fnExactPathTextSpec)) fnExactPathTextCard

/-- THE TIED CARD OF 'laws.FnRain'. -/
def fnRainCard : Claim7 := { stood := { row := fnRainRow, standIns := [], harness := (true, "2d193d0249f48ae2d1964fb6ea931e26c5f49807d326462f51d3ba85b8e93c57"), looks := false }, kinds := [], alts := [], laidByText := true, laidKinds := [.data, .data], laidTests := true, laidLooks := .later }
def FnRainCardSaid : Prop := Claim7.holds Tryd.pinned (.plain (OpenSpec.ofChange fnRainSpec)) fnRainCard

/-- THE SECOND FORM's CARD OF 'laws.FnExactOutageOf'. -/
def fnExactOutageOfUptoCard : Claim7 := { stood := { row := fnExactOutageOfUptoRow, standIns := [], harness := (true, "2d193d0249f48ae2d1964fb6ea931e26c5f49807d326462f51d3ba85b8e93c57"), looks := false }, kinds := [], alts := [], laidByText := true, laidKinds := [.data], laidTests := true, laidLooks := .later }
def FnExactOutageOfUptoCardSaid : Prop := Claim7.holds Tryd.pinned (.plain (OpenSpec.upto fnExactOutageOfSpec)) fnExactOutageOfUptoCard

/-- THE SECOND FORM's CARD OF 'laws.FnExactMarginFor'. -/
def fnExactMarginForUptoCard : Claim7 := { stood := { row := fnExactMarginForUptoRow, standIns := [], harness := (true, "2d193d0249f48ae2d1964fb6ea931e26c5f49807d326462f51d3ba85b8e93c57"), looks := false }, kinds := [], alts := [], laidByText := true, laidKinds := [.data], laidTests := true, laidLooks := .later }
def FnExactMarginForUptoCardSaid : Prop := Claim7.holds Tryd.pinned (.plain (OpenSpec.upto fnExactMarginForSpec)) fnExactMarginForUptoCard

/-- THE SECOND FORM's CARD OF 'laws.FnExactExceedanceOf'. -/
def fnExactExceedanceOfUptoCard : Claim7 := { stood := { row := fnExactExceedanceOfUptoRow, standIns := [], harness := (true, "2d193d0249f48ae2d1964fb6ea931e26c5f49807d326462f51d3ba85b8e93c57"), looks := false }, kinds := [], alts := [], laidByText := true, laidKinds := [.data], laidTests := true, laidLooks := .later }
def FnExactExceedanceOfUptoCardSaid : Prop := Claim7.holds Tryd.pinned (.plain (OpenSpec.upto fnExactExceedanceOfSpec)) fnExactExceedanceOfUptoCard

/-- THE SECOND FORM's CARD OF 'laws.FnExactRainOutage'. -/
def fnExactRainOutageUptoCard : Claim7 := { stood := { row := fnExactRainOutageUptoRow, standIns := [], harness := (true, "2d193d0249f48ae2d1964fb6ea931e26c5f49807d326462f51d3ba85b8e93c57"), looks := false }, kinds := [], alts := [], laidByText := true, laidKinds := [.data], laidTests := true, laidLooks := .later }
def FnExactRainOutageUptoCardSaid : Prop := Claim7.holds Tryd.pinned (.plain (OpenSpec.upto fnExactRainOutageSpec)) fnExactRainOutageUptoCard

/-- THE SECOND FORM's CARD OF 'laws.FnExactSeriesOutage'. -/
def fnExactSeriesOutageUptoCard : Claim7 := { stood := { row := fnExactSeriesOutageUptoRow, standIns := [], harness := (true, "2d193d0249f48ae2d1964fb6ea931e26c5f49807d326462f51d3ba85b8e93c57"), looks := false }, kinds := [], alts := [], laidByText := true, laidKinds := [.data], laidTests := true, laidLooks := .later }
def FnExactSeriesOutageUptoCardSaid : Prop := Claim7.holds Tryd.pinned (.plain (OpenSpec.upto fnExactSeriesOutageSpec)) fnExactSeriesOutageUptoCard

/-- THE SECOND FORM's CARD OF 'laws.FnExactParallelOutage'. -/
def fnExactParallelOutageUptoCard : Claim7 := { stood := { row := fnExactParallelOutageUptoRow, standIns := [], harness := (true, "2d193d0249f48ae2d1964fb6ea931e26c5f49807d326462f51d3ba85b8e93c57"), looks := false }, kinds := [], alts := [], laidByText := true, laidKinds := [.data], laidTests := true, laidLooks := .later }
def FnExactParallelOutageUptoCardSaid : Prop := Claim7.holds Tryd.pinned (.plain (OpenSpec.upto fnExactParallelOutageSpec)) fnExactParallelOutageUptoCard

/-- THE SECOND FORM's CARD OF 'laws.FnExactDownTime'. -/
def fnExactDownTimeUptoCard : Claim7 := { stood := { row := fnExactDownTimeUptoRow, standIns := [], harness := (true, "2d193d0249f48ae2d1964fb6ea931e26c5f49807d326462f51d3ba85b8e93c57"), looks := false }, kinds := [], alts := [], laidByText := true, laidKinds := [.data], laidTests := true, laidLooks := .later }
def FnExactDownTimeUptoCardSaid : Prop := Claim7.holds Tryd.pinned (.plain (OpenSpec.upto fnExactDownTimeSpec)) fnExactDownTimeUptoCard

/-- THE SECOND FORM's CARD OF 'laws.FnExactNinesOf'. -/
def fnExactNinesOfUptoCard : Claim7 := { stood := { row := fnExactNinesOfUptoRow, standIns := [], harness := (true, "2d193d0249f48ae2d1964fb6ea931e26c5f49807d326462f51d3ba85b8e93c57"), looks := false }, kinds := [], alts := [], laidByText := true, laidKinds := [.data], laidTests := true, laidLooks := .later }
def FnExactNinesOfUptoCardSaid : Prop := Claim7.holds Tryd.pinned (.plain (OpenSpec.upto fnExactNinesOfSpec)) fnExactNinesOfUptoCard

/-- THE SECOND FORM's CARD OF 'laws.FnExactPathText'. -/
def fnExactPathTextUptoCard : Claim7 := { stood := { row := fnExactPathTextUptoRow, standIns := [], harness := (true, "2d193d0249f48ae2d1964fb6ea931e26c5f49807d326462f51d3ba85b8e93c57"), looks := false }, kinds := [], alts := [], laidByText := true, laidKinds := [.data, .data, .data], laidTests := true, laidLooks := .later }
def FnExactPathTextUptoCardSaid : Prop := Claim7.holds Tryd.pinned (.plain (OpenSpec.upto fnExactPathTextSpec)) fnExactPathTextUptoCard

/-- THE SECOND FORM's CARD OF 'laws.FnRain'. -/
def fnRainUptoCard : Claim7 := { stood := { row := fnRainUptoRow, standIns := [], harness := (true, "2d193d0249f48ae2d1964fb6ea931e26c5f49807d326462f51d3ba85b8e93c57"), looks := false }, kinds := [], alts := [], laidByText := true, laidKinds := [.data, .data], laidTests := true, laidLooks := .later }
def FnRainUptoCardSaid : Prop := Claim7.holds Tryd.pinned (.plain (OpenSpec.upto fnRainSpec)) fnRainUptoCard
end Rows
end Go.Proofs.YtafhphceojamoaaDoor
