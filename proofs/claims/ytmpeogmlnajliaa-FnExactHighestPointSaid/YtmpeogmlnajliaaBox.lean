
/-
  A block of cells that a law holds: what its cells are, and that they stay. No condition.
-/
import Derived.Test.YtmpeogmlnajliaaOn
namespace Go.Proofs.Ytmpeogmlnajliaa.Bx
open Go.RowKit

/-- The block g begins with the cells vs. -/
def Box (w : World) (g : Nat) (vs : List Value) : Prop := g < w.heap.size ∧ ∀ q v, vs[q]? = some v → w.cell? ⟨g, q, none⟩ = some v
theorem Box.on {w w' : World} {g : Nat} {vs : List Value} (h : Box w g vs) (ho : On w w') : Box w' g vs :=
  ⟨ho.lts _ h.1, fun q v hq => (ho.cell (by exact h.1)).trans (h.2 q v hq)⟩
theorem Box.new (w : World) (vs : List Value) (t : TypeId) : Box (w.alloc (.cells vs.toArray t)) w.heap.size vs :=
  ⟨by simp, fun q v hq => by rw [World.cell?_alloc_mark]; simpa using hq⟩
end Go.Proofs.Ytmpeogmlnajliaa.Bx
