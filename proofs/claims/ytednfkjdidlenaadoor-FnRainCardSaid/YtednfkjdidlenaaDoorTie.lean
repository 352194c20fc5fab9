/-
  DERIVED. GIVEN WITH THE SEED: THE PROGRAM's TIES (one call each: nine closed facts by the kernel) AND EACH ROW's TIE, after the 31st guide's Derived/Test/Toyas{Tie, Card}.lean. No idea stands in it: it is a product of the set-up. Laid BY PROGRAM, IN A SANDBOX (cutbox-door.mjs). By AI agents, Wed Nov 11 2026. No macro, syntax, notation, axiom, sorry.
-/
import Derived.Test.YtednfkjdidlenaaDoorRows
import Derived.LaidByTextLater
import Derived.SevenTiedAt
import Derived.LaidSub
import Derived.LaidOnce
namespace Go.Proofs.YtednfkjdidlenaaDoor
open Go
set_option maxRecDepth 100000
theorem seatTie1 : Tryd.prog.laidByTextLater [("loop.example/g00925/impl.quantitySpans", Rows.laid_loop_example_g00925_impl_quantitySpans), ("loop.example/g00925/impl.surroundings", Rows.laid_loop_example_g00925_impl_surroundings)] [.data, .data] true :=
  Program.laidByTextLater_by_one 42 8 31 (by kernel_rfl) (by kernel_rfl) (by kernel_rfl) (by kernel_rfl) (by kernel_rfl) (by kernel_rfl) (fun _ _ => by kernel_rfl)
theorem noOwnUnsafe : Tryd.pinned.checked.prog.headLifts.contains "ownunsafe" = false := by kernel_rfl
theorem tie : Tryd.prog.laidByTextLater [("loop.example/g00925/impl.quantitySpans", Rows.laid_loop_example_g00925_impl_quantitySpans), ("loop.example/g00925/impl.surroundings", Rows.laid_loop_example_g00925_impl_surroundings)] [.data, .data] true :=
  Program.laidByTextLater.sub seatTie1 ["loop.example/g00925/impl.quantitySpans", "loop.example/g00925/impl.surroundings"] (by kernel_rfl) (by kernel_rfl)
theorem fnRain_row_tie : Rows.fnRainRow.laidByTextAt .later Tryd.pinned [.data, .data] true :=
  OpenClaim.laidByTextAt_later rfl rfl tie noOwnUnsafe
theorem fnRainUpto_row_tie : Rows.fnRainUptoRow.laidByTextAt .later Tryd.pinned [.data, .data] true :=
  OpenClaim.laidByTextAt_later rfl rfl tie noOwnUnsafe
end Go.Proofs.YtednfkjdidlenaaDoor
