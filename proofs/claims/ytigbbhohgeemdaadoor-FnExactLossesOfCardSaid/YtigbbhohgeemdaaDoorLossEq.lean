
/-
  What the laws' comparison of losses returns for equal ones. No condition.
-/
import Derived.Test.YtigbbhohgeemdaaDoorLossesI
namespace Go.Proofs.YtigbbhohgeemdaaDoor.Losses
open Go.RowKit
open Plain

theorem res_parts (f d r : Int) (cs hs : List Int) : ∃ F G R K T C : Int, resL f d r cs hs = .tuple #[.agg #[.int .i64 F, .int .i64 G, .int .i64 R, .int .i64 K, .int .i64 T], .int .i64 C] := ⟨_, _, _, _, _, _, rfl⟩
theorem eq_same (F G R K T : Int) (w : World) :
    Calls Tryd.prog 31 #[.agg #[.int .i64 F, .int .i64 G, .int .i64 R, .int .i64 K, .int .i64 T], .agg #[.int .i64 F, .int .i64 G, .int .i64 R, .int .i64 K, .int .i64 T]] w fun e w' => e = .returned (.bool true) ∧ On w w' := by
  have b0 : (F != F) = false := bne_self_eq_false F
  have b1 : (G != G) = false := bne_self_eq_false G
  have b2 : (R != R) = false := bne_self_eq_false R
  have b3 : (K != K) = false := bne_self_eq_false K
  have b4 : (T != T) = false := bne_self_eq_false T
  go_enter Tryd.func31, Tryd.ntmps31
  go_wp2
  go_ret
  exact ⟨rfl, On.alloc (On.alloc (On.refl _) _) _⟩
end Go.Proofs.YtigbbhohgeemdaaDoor.Losses
