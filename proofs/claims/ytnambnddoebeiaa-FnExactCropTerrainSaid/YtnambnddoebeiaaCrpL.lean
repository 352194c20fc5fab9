
/-
  A part of a terrain: both sides of the law. No condition.
-/
import Derived.Test.YtnambnddoebeiaaCrpS
import Derived.Test.YtnambnddoebeiaaCrpI
import Derived.Test.YtnambnddoebeiaaTRecCopyB
namespace Go.Proofs.Ytnambnddoebeiaa.Crp
open Go.RowKit
open Plain Terr
open Ant (listOf listOf_len listOf_at listOf_succ)
theorem crL_len (s x y px py a b : Int) (z3 z4 zs : List Int) : (crL (crC s x y px py a b z3 z4) (crop zs x px py a b)).length ≤ 576 := by
  cases ho : okT s x y z3 z4 with
  | false => rw [cr_1 ho]; simp [crL]
  | true =>
    cases hc : cropB x y px py a b with
    | false => rw [cr_2 ho hc]; simp [crL]
    | true =>
      rw [cr_0 ho hc]
      unfold cropB at hc
      rw [Bool.and_eq_true, Bool.and_eq_true] at hc
      have h1 := of_inB hc.1
      have h2 := of_inB hc.2.1
      show (crop zs x px py a b).length ≤ 576
      rw [crop, listOf_len]
      exact Nat.mul_le_mul (show b.toNat ≤ 24 by omega) (show a.toNat ≤ 24 by omega)
end Go.Proofs.Ytnambnddoebeiaa.Crp
