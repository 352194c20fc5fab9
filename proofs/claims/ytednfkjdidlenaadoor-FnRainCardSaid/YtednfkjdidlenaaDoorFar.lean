
/-
  The greatest distance for a loss and for a field, in the model and in the program. Condition: the program's variable of spans holds what its text lays.
-/
import Derived.Test.YtednfkjdidlenaaDoorFree
import Derived.Test.YtednfkjdidlenaaDoorOnH
import Derived.Test.YtednfkjdidlenaaDoorLead
import Derived.Handy
namespace Go.Proofs.YtednfkjdidlenaaDoor.Far
open Go.RowKit
open Plain
open Span (SpanG)
open Free (okV okC ret_ii)

/-- Two cells that a closure holds on to. -/
def Clo (w : World) (g : Nat) (x y : Int) : Prop := w.cell? ⟨g, 0, none⟩ = some (.int .i64 x) ∧ w.cell? ⟨g + 1, 0, none⟩ = some (.int .i64 y)
theorem Clo.on {w w' : World} {g : Nat} {x y : Int} (h : Clo w g x y) (ho : On w w') : Clo w' g x y :=
  ⟨(ho.cell (World.block_lt_of_cell? w _ h.1)).trans h.1, (ho.cell (World.block_lt_of_cell? w _ h.2)).trans h.2⟩
/-- RangeOfLoss. -/
def okLoss (f z : Int) : Bool := inB f 1 100000000 && inB z 0 300000
def valLoss (f z : Int) : Int := if okLoss f z = true then farV (lossP f z) else 0
def codeLoss (f z : Int) : Int := if okLoss f z = true then farC (lossP f z) else 2
theorem no_Loss {f z : Int} (h : okLoss f z = false) : valLoss f z = 0 ∧ codeLoss f z = 2 := by unfold valLoss codeLoss; rw [h]; exact ⟨rfl, rfl⟩
theorem yes_Loss {f z : Int} (h : okLoss f z = true) : valLoss f z = farV (lossP f z) ∧ codeLoss f z = farC (lossP f z) := by unfold valLoss codeLoss; rw [h]; exact ⟨rfl, rfl⟩
/-- RangeOfField. -/
def okField (v z : Int) : Bool := inB v (-300000) 300000 && inB z (-300000) 300000
def valField (v z : Int) : Int := if okField v z = true then farV (fieldP v z) else 0
def codeField (v z : Int) : Int := if okField v z = true then farC (fieldP v z) else 2
theorem no_Field {v z : Int} (h : okField v z = false) : valField v z = 0 ∧ codeField v z = 2 := by unfold valField codeField; rw [h]; exact ⟨rfl, rfl⟩
theorem yes_Field {v z : Int} (h : okField v z = true) : valField v z = farV (fieldP v z) ∧ codeField v z = farC (fieldP v z) := by unfold valField codeField; rw [h]; exact ⟨rfl, rfl⟩
end Go.Proofs.YtednfkjdidlenaaDoor.Far
