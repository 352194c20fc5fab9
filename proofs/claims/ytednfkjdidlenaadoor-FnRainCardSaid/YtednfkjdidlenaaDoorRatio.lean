
/-
  What ratios are, in the model and in the program. No condition but that a number fits its kind.
-/
import Derived.Test.YtednfkjdidlenaaDoorLogDb
namespace Go.Proofs.YtednfkjdidlenaaDoor.Log
open Go.RowKit
open Plain

def ratio (a b : Int) : Int := if a < 1 ∨ b < 1 then 0 else logDb a - logDb b
theorem ratio_no {a b : Int} (h : a < 1 ∨ b < 1) : ratio a b = 0 := if_pos h
theorem ratio_yes {a b : Int} (h1 : ¬ a < 1) (h2 : ¬ b < 1) : ratio a b = logDb a - logDb b := if_neg (by omega)
end Go.Proofs.YtednfkjdidlenaaDoor.Log
