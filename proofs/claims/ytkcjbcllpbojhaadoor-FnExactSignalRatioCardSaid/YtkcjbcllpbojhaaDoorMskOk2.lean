
/-
  When a mask is valid, in the model and in the program: the whole tests. Condition: at most 1048576 numbers in each list.
-/
import Derived.Test.YtkcjbcllpbojhaaDoorMskOk
namespace Go.Proofs.YtkcjbcllpbojhaaDoor.Msk
open Go.RowKit
open Plain
open Ints (Ints Own)

theorem ne_b {x y : Int} (h : ¬ x = y) : (x == y) = false ∧ (x != y) = true := by
  have b1 : (x == y) = false := beq_eq_false_iff_ne.2 h
  exact ⟨b1, by rw [bne, b1]; rfl⟩
theorem eq_b {x y : Int} (h : x = y) : (x == y) = true ∧ (x != y) = false := by
  have b1 : (x == y) = true := by rw [h]; exact beq_self_eq_true y
  exact ⟨b1, by rw [bne, b1]; rfl⟩
end Go.Proofs.YtkcjbcllpbojhaaDoor.Msk
