/-
  DERIVED. GIVEN WITH THE SEED: THE PROGRAM's TIES (one call each: nine closed facts by the kernel) AND EACH ROW's TIE, after the 31st guide's Derived/Test/Toyas{Tie, Card}.lean. No idea stands in it: it is a product of the set-up. Laid BY PROGRAM, IN A SANDBOX (cutbox-door.mjs). By AI agents, Wed Nov 11 2026. No macro, syntax, notation, axiom, sorry.
-/
import Derived.Test.YtadoaenmmemjdaaDoorRows
import Derived.LaidByTextLater
import Derived.SevenTiedAt
import Derived.LaidSub
import Derived.LaidOnce
namespace Go.Proofs.YtadoaenmmemjdaaDoor
open Go
set_option maxRecDepth 100000
theorem seatTie1 : Tryd.prog.laidByTextLater [("loop.example/g00925/impl.sines", Rows.laid_loop_example_g00925_impl_sines), ("loop.example/g00925/impl.errInvalid", Rows.laid_loop_example_g00925_impl_errInvalid), ("loop.example/g00925/impl.errRange", Rows.laid_loop_example_g00925_impl_errRange), ("loop.example/g00925/impl.errFull", Rows.laid_loop_example_g00925_impl_errFull), ("loop.example/g00925/impl.errState", Rows.laid_loop_example_g00925_impl_errState)] [.data, .sentinel, .sentinel, .sentinel, .sentinel] true :=
  Program.laidByTextLater_by_one 90 8 92 (by kernel_rfl) (by kernel_rfl) (by kernel_rfl) (by kernel_rfl) (by kernel_rfl) (by kernel_rfl) (fun _ _ => by kernel_rfl)
theorem noOwnUnsafe : Tryd.pinned.checked.prog.headLifts.contains "ownunsafe" = false := by kernel_rfl
theorem tie : Tryd.prog.laidByTextLater [("loop.example/g00925/impl.errInvalid", Rows.laid_loop_example_g00925_impl_errInvalid), ("loop.example/g00925/impl.errRange", Rows.laid_loop_example_g00925_impl_errRange), ("loop.example/g00925/impl.errFull", Rows.laid_loop_example_g00925_impl_errFull), ("loop.example/g00925/impl.errState", Rows.laid_loop_example_g00925_impl_errState)] [.sentinel, .sentinel, .sentinel, .sentinel] true :=
  Program.laidByTextLater.sub seatTie1 ["loop.example/g00925/impl.errInvalid", "loop.example/g00925/impl.errRange", "loop.example/g00925/impl.errFull", "loop.example/g00925/impl.errState"] (by kernel_rfl) (by kernel_rfl)
theorem fnExactEndHeight_row_tie : Rows.fnExactEndHeightRow.laidByTextAt .later Tryd.pinned [.sentinel, .sentinel, .sentinel, .sentinel] true :=
  OpenClaim.laidByTextAt_later rfl rfl tie noOwnUnsafe
theorem fnExactProfileBetween_row_tie : Rows.fnExactProfileBetweenRow.laidByTextAt .later Tryd.pinned [.sentinel, .sentinel, .sentinel, .sentinel] true :=
  OpenClaim.laidByTextAt_later rfl rfl tie noOwnUnsafe
theorem tie2 : Tryd.prog.laidByTextLater [("loop.example/g00925/impl.sines", Rows.laid_loop_example_g00925_impl_sines), ("loop.example/g00925/impl.errInvalid", Rows.laid_loop_example_g00925_impl_errInvalid), ("loop.example/g00925/impl.errRange", Rows.laid_loop_example_g00925_impl_errRange), ("loop.example/g00925/impl.errFull", Rows.laid_loop_example_g00925_impl_errFull), ("loop.example/g00925/impl.errState", Rows.laid_loop_example_g00925_impl_errState)] [.data, .sentinel, .sentinel, .sentinel, .sentinel] true :=
  Program.laidByTextLater.sub seatTie1 ["loop.example/g00925/impl.sines", "loop.example/g00925/impl.errInvalid", "loop.example/g00925/impl.errRange", "loop.example/g00925/impl.errFull", "loop.example/g00925/impl.errState"] (by kernel_rfl) (by kernel_rfl)
theorem fnExactElevationOf_row_tie : Rows.fnExactElevationOfRow.laidByTextAt .later Tryd.pinned [.data, .sentinel, .sentinel, .sentinel, .sentinel] true :=
  OpenClaim.laidByTextAt_later rfl rfl tie2 noOwnUnsafe
theorem fnExactEndHeightUpto_row_tie : Rows.fnExactEndHeightUptoRow.laidByTextAt .later Tryd.pinned [.sentinel, .sentinel, .sentinel, .sentinel] true :=
  OpenClaim.laidByTextAt_later rfl rfl tie noOwnUnsafe
theorem fnExactProfileBetweenUpto_row_tie : Rows.fnExactProfileBetweenUptoRow.laidByTextAt .later Tryd.pinned [.sentinel, .sentinel, .sentinel, .sentinel] true :=
  OpenClaim.laidByTextAt_later rfl rfl tie noOwnUnsafe
theorem fnExactElevationOfUpto_row_tie : Rows.fnExactElevationOfUptoRow.laidByTextAt .later Tryd.pinned [.data, .sentinel, .sentinel, .sentinel, .sentinel] true :=
  OpenClaim.laidByTextAt_later rfl rfl tie2 noOwnUnsafe
end Go.Proofs.YtadoaenmmemjdaaDoor
