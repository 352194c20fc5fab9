
/-
  The laws' comparison of two points. No condition.
-/
import Derived.Test.YtmpeogmlnajliaaTerrOkI
namespace Go.Proofs.Ytmpeogmlnajliaa.Hp
open Go.RowKit
theorem eqPoint (x y : Int) (w : World) :
    Calls Try.prog 16 #[.agg #[.int .i64 x, .int .i64 y], .agg #[.int .i64 x, .int .i64 y]] w fun e w' => e = .returned (.bool true) ∧ On w w' := by
  go_enter Try.func16, Try.ntmps16
  go_wp2
  go_ret
  exact ⟨rfl, by repeat (first | exact On.refl _ | apply On.alloc)⟩
end Go.Proofs.Ytmpeogmlnajliaa.Hp
