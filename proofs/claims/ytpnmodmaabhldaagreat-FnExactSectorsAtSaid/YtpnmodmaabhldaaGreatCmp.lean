
/-
  The comparison of two texts, in the program. No condition.
-/
import Derived.Test.YtpnmodmaabhldaaGreatNmd
import Derived.Deep.LoopGhost
import Derived.Shelf.Small.Strs
namespace Go.Proofs.YtpnmodmaabhldaaGreat.Nmd
open Go.RowKit
set_option maxRecDepth 100000 in
theorem compareString (x y : ByteArray) (w : World) :
    Calls Tryz.prog 158 #[.string x, .string y] w fun e w' => e = .returned (.int .i64 (Nmd.cmp x y)) ∧ w' = w := by
  go_enter Tryz.func158, Tryz.ntmps158
  go_wp2
  rw [run_callFunc_extern Tryz.func165 (by kernel_rfl) (by kernel_rfl) (by kernel_rfl) (e := Extern.BytealgCompare.compare) (by kernel_rfl), Lib.run_compareString]
  simp only [Result.andThen]
  rw [Oper.upon_value]
  go_wp2
  go_ret
  exact ⟨rfl, rfl⟩
theorem compare (x y : ByteArray) (w : World) :
    Calls Tryz.prog 131 #[.string x, .string y] w fun e w' => e = .returned (.int .i64 (Nmd.cmp x y)) ∧ w' = w := by
  go_enter Tryz.func131, Tryz.ntmps131
  go_wp2_with fail
  refine (compareString x y _).mono ?_
  rintro e w' ⟨rfl, rfl⟩
  go_wp2_with fail
  go_ret
  exact ⟨rfl, rfl⟩
end Go.Proofs.YtpnmodmaabhldaaGreat.Nmd
