
/-
  What the line through two points of the model and of the program returns. Conditions: each theorem's own.
-/
import Derived.Test.YtnambnddoebeiaaDoorProg
import Derived.Test.YtnambnddoebeiaaDoorArith
import Derived.WalkKit
import Derived.Lib.Hide
import Derived.IntWalk
import Derived.Handy
namespace Go.Proofs.YtnambnddoebeiaaDoor.Line
open Go.RowKit
open Plain
open Arith (ret_bool ret_int)

theorem prod_bd {a b : Int} (a0 : -2000000 ≤ a) (a1 : a ≤ 2000000) (b0 : 0 ≤ b) (b1 : b ≤ 2000000) : -4000000000000 ≤ a * b ∧ a * b ≤ 4000000000000 := by
  have h1 : a * b ≤ 2000000 * b := Int.mul_le_mul_of_nonneg_right a1 b0
  have h2 : -2000000 * b ≤ a * b := Int.mul_le_mul_of_nonneg_right a0 b0
  omega
/-- The line. -/
def line (x0 y0 x1 y1 x : Int) : Int := if x ≤ x0 ∨ x1 ≤ x0 then y0 else if x1 ≤ x then y1 else y0 + near ((y1 - y0) * (x - x0)) (x1 - x0)
theorem line_first {x0 y0 x1 y1 x : Int} (h : x ≤ x0 ∨ x1 ≤ x0) : line x0 y0 x1 y1 x = y0 := if_pos h
theorem line_last {x0 y0 x1 y1 x : Int} (h1 : x0 < x) (h2 : x0 < x1) (h : x1 ≤ x) : line x0 y0 x1 y1 x = y1 := by
  unfold line; rw [if_neg (by omega), if_pos h]
theorem line_mid {x0 y0 x1 y1 x : Int} (h1 : x0 < x) (h : x < x1) : line x0 y0 x1 y1 x = y0 + near ((y1 - y0) * (x - x0)) (x1 - x0) := by
  unfold line; rw [if_neg (by omega), if_neg (by omega)]
/-- What Between returns. -/
def between (x0 y0 x1 y1 x : Int) : Int := if (inB x0 (-1000000) 1000000 && inB y0 (-1000000) 1000000 && inB x1 (-1000000) 1000000 && inB y1 (-1000000) 1000000) = true then line x0 y0 x1 y1 x else 0
theorem between_yes {x0 y0 x1 y1 x : Int} (a : inB x0 (-1000000) 1000000 = true) (b : inB y0 (-1000000) 1000000 = true) (c : inB x1 (-1000000) 1000000 = true) (d : inB y1 (-1000000) 1000000 = true) : between x0 y0 x1 y1 x = line x0 y0 x1 y1 x := by
  unfold between; rw [a, b, c, d]; rfl
theorem between_no {x0 y0 x1 y1 x : Int} (h : inB x0 (-1000000) 1000000 = false ∨ inB y0 (-1000000) 1000000 = false ∨ inB x1 (-1000000) 1000000 = false ∨ inB y1 (-1000000) 1000000 = false) : between x0 y0 x1 y1 x = 0 := by
  unfold between; rw [if_neg]; rcases h with h | h | h | h <;> simp [h]

end Go.Proofs.YtnambnddoebeiaaDoor.Line
