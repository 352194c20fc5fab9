
/-
  What the model's text of a list of numbers is. Condition: at most 1048576 numbers.
-/
import Derived.Test.YtnambnddoebeiaaDoorProg
import Derived.Test.YtnambnddoebeiaaDoorArith
import Derived.Test.YtnambnddoebeiaaDoorDec
import Derived.Test.YtnambnddoebeiaaDoorListPlain
import Derived.Test.YtnambnddoebeiaaDoorInts
import Derived.WalkKit
import Derived.Lib.Hide
import Derived.Below
import Derived.IntWalk
namespace Go.Proofs.YtnambnddoebeiaaDoor.ListSpec
open Go.RowKit
open Plain
open Arith (ret_bool)

/-- What ListText returns. -/
def listT (zs : List Int) : ByteArray := if fitsB zs = true then ⟨(listB zs).toArray⟩ else ⟨#[]⟩
theorem listT_no {zs : List Int} (h : fitsB zs = false) : listT zs = ⟨#[]⟩ := if_neg (by rw [h]; simp)
theorem listT_yes {zs : List Int} (h : fitsB zs = true) (h0 : 0 < zs.length) : listT zs = ⟨(commas zs).toArray⟩ := by
  unfold listT listB
  rw [if_pos h, if_neg (by intro hc; rw [hc] at h0; simp at h0)]
theorem listT_nil : listT [] = ⟨#[45]⟩ := rfl
end Go.Proofs.YtnambnddoebeiaaDoor.ListSpec
