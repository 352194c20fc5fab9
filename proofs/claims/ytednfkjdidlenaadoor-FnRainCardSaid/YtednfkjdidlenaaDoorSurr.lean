
/-
  What the program's variable of surroundings holds, as a property of a world. No condition.
-/
import Derived.Test.YtednfkjdidlenaaDoorLossP
import Derived.Test.YtednfkjdidlenaaDoorOn
namespace Go.Proofs.YtednfkjdidlenaaDoor.Surr
open Go.RowKit
open Plain

def names : List (List UInt8) := [[111, 112, 101, 110], [102, 105, 101, 108, 100], [119, 97, 116, 101, 114], [116, 114, 101, 101, 115], [118, 105, 108, 108, 97, 103, 101], [115, 117, 98, 117, 114, 98], [116, 111, 119, 110], [99, 105, 116, 121]]
def nameV (c : Nat) : ByteArray := ⟨(names.getD c []).toArray⟩
/-- The program's variable of surroundings. -/
def SurrG (w : World) : Prop := ∀ c, c < 8 → w.cell? ⟨0, c * 3, none⟩ = some (.string (nameV c)) ∧ w.cell? ⟨0, c * 3 + 1, none⟩ = some (.int .i64 (highV c)) ∧ w.cell? ⟨0, c * 3 + 2, none⟩ = some (.int .i64 (lostV c))
theorem SurrG.on {w w' : World} (h : SurrG w) (ho : On w w') : SurrG w' := fun c hc => by
  obtain ⟨h0, h1, h2⟩ := h c hc
  have hb := World.block_lt_of_cell? w _ h0
  exact ⟨(ho.cell (by exact hb)).trans h0, (ho.cell (by exact hb)).trans h1, (ho.cell (by exact hb)).trans h2⟩
end Go.Proofs.YtednfkjdidlenaaDoor.Surr
