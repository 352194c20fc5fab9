
/-
  Whether a point is in a terrain, and what is asked of a terrain at a point, in the model and in the program. Conditions: each theorem's own.
-/
import Derived.Test.YtgcpnodpndgekaaTerrOkI
namespace Go.Proofs.Ytgcpnodpndgekaa.Terr
open Go.RowKit
open Plain
open Ints (Ints Own)

/-- The block g holds a point. -/
def PtIn (w : World) (g : Nat) (px py : Int) : Prop := w.cell? ⟨g, 0, none⟩ = some (.int .i64 px) ∧ w.cell? ⟨g, 1, none⟩ = some (.int .i64 py)
theorem PtIn.on {w w' : World} {g : Nat} {px py : Int} (h : PtIn w g px py) (ho : On w w') : PtIn w' g px py :=
  ⟨(ho.cell (World.block_lt_of_cell? w _ h.1)).trans h.1, (ho.cell (World.block_lt_of_cell? w _ h.2)).trans h.2⟩
/-- The point lies within the corners. -/
def inT (s x y px py : Int) : Bool := inB px 0 ((x - 1) * s) && inB py 0 ((y - 1) * s)
theorem inT_1 {s x y px py : Int} (h : inB px 0 ((x - 1) * s) = false) : inT s x y px py = false := by unfold inT; rw [h]; rfl
theorem inT_2 {s x y px py : Int} (h : inB px 0 ((x - 1) * s) = true) : inT s x y px py = inB py 0 ((y - 1) * s) := by unfold inT; rw [h]; rfl
theorem of_inT {s x y px py : Int} (h : inT s x y px py = true) : (0 ≤ px ∧ px ≤ (x - 1) * s) ∧ (0 ≤ py ∧ py ≤ (y - 1) * s) := by
  unfold inT at h
  rw [Bool.and_eq_true] at h
  exact ⟨of_inB h.1, of_inB h.2⟩
end Go.Proofs.Ytgcpnodpndgekaa.Terr
