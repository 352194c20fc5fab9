
/-
  What the ranges, the magnitude, the nearest quotient and the line of the model and of the program return. Conditions: each theorem's own, on the size of its numbers.
-/
import Derived.Test.YtdkemoojlgdelaaProg
import Derived.Test.YtdkemoojlgdelaaPlain
import Derived.WalkKit
import Derived.Lib.Hide
import Derived.IntWalk
import Derived.Laws.Bits64
import Derived.RegionTactic
import Derived.Deep.QuietTactic
import Derived.BigQuiet
namespace Go.Proofs.Ytdkemoojlgdelaa.Arith
open Go.RowKit
open Plain

theorem ret_bool {a b : Bool} (h : a = b) : Ending.returned (.bool a) = .returned (.bool b) := by rw [h]
theorem ret_int {k : IntKind} {a b : Int} (h : a = b) : Ending.returned (.int k a) = .returned (.int k b) := by rw [h]
/-- What DivRound returns. -/
def divRound (a b : Int) : Int := if b = 0 ∨ inB a (-1000000000000) 1000000000000 = false ∨ inB b (-1000000000000) 1000000000000 = false then 0 else near a b
theorem divRound_no {a b : Int} (h : b = 0 ∨ inB a (-1000000000000) 1000000000000 = false ∨ inB b (-1000000000000) 1000000000000 = false) : divRound a b = 0 := if_pos h
theorem divRound_yes {a b : Int} (h0 : b ≠ 0) (h1 : inB a (-1000000000000) 1000000000000 = true) (h2 : inB b (-1000000000000) 1000000000000 = true) : divRound a b = near a b := by
  unfold divRound
  rw [if_neg (by rw [h1, h2]; simp [h0])]

end Go.Proofs.Ytdkemoojlgdelaa.Arith
