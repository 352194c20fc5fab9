
/-
  The class of clutter at a point of a terrain, whole, in the model and in the program. Conditions: each theorem's own.
-/
import Derived.Test.YtadoaenmmemjdaaDoorTerrClut
namespace Go.Proofs.YtadoaenmmemjdaaDoor.Terr
open Go.RowKit
open Plain
open Ints (Ints Own)

theorem ret_ii {a b c d : Int} (h1 : a = b) (h2 : c = d) : Ending.returned (.tuple #[.int .i64 a, .int .i64 c]) = .returned (.tuple #[.int .i64 b, .int .i64 d]) := by rw [h1, h2]
theorem at_cells {s x y px py : Int} {zs cs : List Int} {n m : Nat} (hzn : zs.length = n) (hcm : cs.length = m) (hc : atC s x y zs cs px py = 0) : inT s x y px py = true ∧ (1 ≤ s ∧ s ≤ 10000) ∧ (2 ≤ x ∧ x ≤ 24) ∧ (2 ≤ y ∧ y ≤ 24) ∧ (n : Int) = x * y ∧ (m : Int) = x * y ∧ 0 < n ∧ 0 < m ∧ GTo zs cs n := by
  obtain ⟨ho, hi⟩ := of_at hc
  obtain ⟨hs, h1, h2, h3⟩ := of_okT ho
  obtain ⟨⟨s0, s1⟩, ⟨x0, x1⟩, ⟨y0, y1⟩, -, -⟩ := of_size hs
  obtain ⟨p0, p1⟩ := prod_n x0 x1 y0 y1
  rw [hzn] at h1 h2 h3
  rw [hcm] at h2
  exact ⟨hi, ⟨s0, s1⟩, ⟨x0, x1⟩, ⟨y0, y1⟩, h1, by omega, by omega, by omega, h3⟩
end Go.Proofs.YtadoaenmmemjdaaDoor.Terr
