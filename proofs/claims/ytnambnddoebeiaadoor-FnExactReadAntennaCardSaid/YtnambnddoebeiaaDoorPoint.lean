
/-
  What the points' validity, their ways and their distances are, in the model and in the program. No condition.
-/
import Derived.Test.YtnambnddoebeiaaDoorProg
import Derived.Test.YtnambnddoebeiaaDoorPlain
import Derived.Test.YtnambnddoebeiaaDoorOn
import Derived.Test.YtnambnddoebeiaaDoorArith
namespace Go.Proofs.YtnambnddoebeiaaDoor.Point
open Go.RowKit
open Plain

def okB (x y : Int) : Bool := inB x 0 200000 && inB y 0 200000
theorem okB_no1 {x y : Int} (h : inB x 0 200000 = false) : okB x y = false := by unfold okB; rw [h]; rfl
theorem okB_two {x y : Int} (h : inB x 0 200000 = true) : okB x y = inB y 0 200000 := by unfold okB; rw [h]; rfl
theorem of_okB {x y : Int} (h : okB x y = true) : 0 ≤ x ∧ x ≤ 200000 ∧ 0 ≤ y ∧ y ≤ 200000 := by
  unfold okB at h
  rw [Bool.and_eq_true] at h
  have h1 := of_inB h.1
  have h2 := of_inB h.2
  omega

end Go.Proofs.YtnambnddoebeiaaDoor.Point
