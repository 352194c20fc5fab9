/-
  DERIVED. GIVEN WITH THE SEED: THE CARDS: each row of YtednfkjdidlenaaDoorRows.lean that lists a variable, with what it lists TIED to the program's text (the seventh form; the later family's looks); each row that meets fmt, with fmt's text TOLD by the authors' own Lean function (tested against real Go, not proved from fmt's source: count such statements apart). THE CARD IS WHAT COUNTS. Prove the row's statement (the work); the ties are given (YtednfkjdidlenaaDoorTie.lean); close each card by the builder's one call (the guide's Derived/Test/ToyasCard.lean, 'card_holds'). Laid BY PROGRAM, IN A SANDBOX (cutbox-door.mjs). By AI agents, Wed Nov 11 2026. No macro, syntax, notation, axiom, sorry.
-/
import Derived.Test.YtednfkjdidlenaaDoorRows
import GoSem.ClaimSeven
namespace Go.Proofs.YtednfkjdidlenaaDoor
namespace Rows

/-- THE TIED CARD OF 'laws.FnRain'. -/
def fnRainCard : Claim7 := { stood := { row := fnRainRow, standIns := [], harness := (true, "5ef9b445d0aeaa932ad774c021dafeb56d002b1196905918bc3d3999eafa01eb"), looks := false }, kinds := [], alts := [], laidByText := true, laidKinds := [.data, .data], laidTests := true, laidLooks := .later }
def FnRainCardSaid : Prop := Claim7.holds Tryd.pinned (.plain (OpenSpec.ofChange fnRainSpec)) fnRainCard

/-- THE SECOND FORM's CARD OF 'laws.FnRain'. -/
def fnRainUptoCard : Claim7 := { stood := { row := fnRainUptoRow, standIns := [], harness := (true, "5ef9b445d0aeaa932ad774c021dafeb56d002b1196905918bc3d3999eafa01eb"), looks := false }, kinds := [], alts := [], laidByText := true, laidKinds := [.data, .data], laidTests := true, laidLooks := .later }
def FnRainUptoCardSaid : Prop := Claim7.holds Tryd.pinned (.plain (OpenSpec.upto fnRainSpec)) fnRainUptoCard
end Rows
end Go.Proofs.YtednfkjdidlenaaDoor
