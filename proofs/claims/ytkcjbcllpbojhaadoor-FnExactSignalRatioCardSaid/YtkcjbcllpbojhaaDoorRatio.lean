
/-
  What ratios are, in the model and in the program. No condition but that a number fits its kind.
-/
import Derived.Test.YtkcjbcllpbojhaaDoorLogDb
namespace Go.Proofs.YtkcjbcllpbojhaaDoor.Log
open Go.RowKit
open Plain

def ratio (a b : Int) : Int := if a < 1 ∨ b < 1 then 0 else logDb a - logDb b
theorem ratio_no {a b : Int} (h : a < 1 ∨ b < 1) : ratio a b = 0 := if_pos h
theorem ratio_yes {a b : Int} (h1 : ¬ a < 1) (h2 : ¬ b < 1) : ratio a b = logDb a - logDb b := if_neg (by omega)
theorem spec_logI (n : Int) (w : World) (h0 : ¬ n < 1) (h1 : n ≤ 9223372036854775807) :
    Calls Tryd.prog 61 #[.int .i64 n] w fun e w' => e = .returned (.int .i64 (logDb n)) ∧ w = w' := by
  obtain ⟨m, rfl⟩ := Int.eq_ofNat_of_zero_le (a := n) (by omega)
  rw [logDb_yes (by omega)]
  exact spec_log m w (by omega) (by omega)
end Go.Proofs.YtkcjbcllpbojhaaDoor.Log
