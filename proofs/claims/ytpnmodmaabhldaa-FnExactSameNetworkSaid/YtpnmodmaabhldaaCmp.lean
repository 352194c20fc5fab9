
/-
  The comparison of two texts, in the program. No condition.
-/
import Derived.Test.YtpnmodmaabhldaaNmd
import Derived.Deep.LoopGhost
import Derived.Shelf.Small.Strs
namespace Go.Proofs.Ytpnmodmaabhldaa.Nmd
open Go.RowKit
set_option maxRecDepth 100000 in
theorem compareString (x y : ByteArray) (w : World) :
    Calls Try.prog 124 #[.string x, .string y] w fun e w' => e = .returned (.int .i64 (Nmd.cmp x y)) ∧ w' = w := by
  go_enter Try.func124, Try.ntmps124
  go_wp2
  rw [run_callFunc_extern Try.func125 (by kernel_rfl) (by kernel_rfl) (by kernel_rfl) (e := Extern.BytealgCompare.compare) (by kernel_rfl), Lib.run_compareString]
  simp only [Result.andThen]
  rw [Oper.upon_value]
  go_wp2
  go_ret
  exact ⟨rfl, rfl⟩
theorem compare (x y : ByteArray) (w : World) :
    Calls Try.prog 115 #[.string x, .string y] w fun e w' => e = .returned (.int .i64 (Nmd.cmp x y)) ∧ w' = w := by
  go_enter Try.func115, Try.ntmps115
  go_wp2_with fail
  refine (compareString x y _).mono ?_
  rintro e w' ⟨rfl, rfl⟩
  go_wp2_with fail
  go_ret
  exact ⟨rfl, rfl⟩
end Go.Proofs.Ytpnmodmaabhldaa.Nmd
