
/-
  A call that only makes memory: how such steps join. No condition.
-/
import Derived.Test.YtmpeogmlnajliaaProg
import Derived.WalkKit
import Derived.Below
import Derived.Lib.Hide
import Derived.RowKit3
import Derived.Deep.QuietTactic
namespace Go.Proofs.Ytmpeogmlnajliaa
open Go.RowKit

/-- The world w' is w with new memory, and all that was there is as it was. -/
def On (w w' : World) : Prop := Below w.heap.size w w'
theorem On.refl (w : World) : On w w := Below.refl _ _
theorem On.alloc {w w' : World} (h : On w w') (o : Obj) : On w (w'.alloc o) := Below.alloc h h.size o
theorem On.trans {a b c : World} (h : On a b) (k : On b c) : On a c := Below.trans h (Below.mono k h.size)
theorem On.drew {w w' : World} (h : On w w') : On w w'.drew := Below.drew h
theorem On.drewN {w w' : World} (h : On w w') (n : Nat) : On w (w'.drewN n) := Below.trans h ⟨rfl, rfl, rfl, Nat.le_refl _, fun _ _ => rfl⟩
theorem On.setCell {w w' : World} (h : On w w') {p : Addr} (hp : w.heap.size ≤ p.block) (u : Value) : On w (w'.setCell p u) := Below.setCell h hp u
theorem On.size {w w' : World} (h : On w w') : w.heap.size ≤ w'.heap.size := Below.size h
theorem On.cell {w w' : World} (h : On w w') {p : Addr} (hp : p.block < w.heap.size) : w'.cell? p = w.cell? p := Below.cell h hp
theorem On.frozen {w w' : World} (h : On w w') {p : Addr} (hp : p.block < w.heap.size) : w'.frozen? p = w.frozen? p := Below.frozen h hp
theorem On.lts {w w' : World} (h : On w w') : ∀ b, b < w.heap.size → b < w'.heap.size := fun _ hb => Nat.lt_of_lt_of_le hb h.size
/-- What the walk is told behind such a step. -/
theorem bcell {W w1 : World} (hb : On W w1) : (∀ b o, b < W.heap.size → w1.cell? ⟨b, o, none⟩ = W.cell? ⟨b, o, none⟩) ∧ (∀ b o, b < W.heap.size → w1.frozen? ⟨b, o, none⟩ = W.frozen? ⟨b, o, none⟩) :=
  ⟨fun b o h => hb.cell (p := ⟨b, o, none⟩) h, fun b o h => hb.frozen (p := ⟨b, o, none⟩) h⟩
theorem On.grown {w w' : World} (h : On w w') (hf : ∀ a, w'.frozen? a = w.frozen? a) : Grown w w' := ⟨Below.frame h _, hf, h.size⟩
theorem ret_bool {a b : Bool} (h : a = b) : Ending.returned (.bool a) = .returned (.bool b) := by rw [h]
theorem ret_int {k : IntKind} {a b : Int} (h : a = b) : Ending.returned (.int k a) = .returned (.int k b) := by rw [h]
/-- A region that draws its order, whose operations read, or call what only makes memory: one walk of the text's order serves every order, in every world that is w with new memory. -/
theorem wp_region_on {P : Program} {id : Nat} {Q : Exit → Act → World → Prop} {a : Act} {w : World} {l : List Oper} (hm : P.follows .mixedOrders = true) (hB : Region.lexB .any l.toArray = true)
    (h : wpQuiet P l.toArray (On w) (fun a' => ∀ w', On w w' → Q .normal a' w') l a) : (Code.region id l.toArray true).wp P Q a w :=
  wp_region_quiet (C := On w) hm hB (On.drew (On.refl w)) (by simpa using h)
theorem Calls.on {P : Program} {f : FuncId} {args : Array Value} {W w : World} {v : Value} (hw : On W w) (h : Calls P f args w fun e w' => e = .returned v ∧ On w w') : Calls P f args w fun e w'' => e = .returned v ∧ On W w'' :=
  h.mono fun _ _ ⟨he, ho⟩ => ⟨he, hw.trans ho⟩
theorem Calls.on_same {P : Program} {f : FuncId} {args : Array Value} {W w : World} {v : Value} (hw : On W w) (h : Calls P f args w fun e w' => e = .returned v ∧ w = w') : Calls P f args w fun e w'' => e = .returned v ∧ On W w'' :=
  h.mono fun _ _ ⟨he, ho⟩ => ⟨he, ho ▸ hw⟩
theorem Calls.on_drew {P : Program} {f : FuncId} {args : Array Value} {W w : World} {v : Value} (hw : On W w) (h : Calls P f args w fun e w' => e = .returned v ∧ ∃ n, w' = w.drewN n) : Calls P f args w fun e w'' => e = .returned v ∧ On W w'' :=
  h.mono fun _ _ ⟨he, n, ho⟩ => ⟨he, ho ▸ hw.drewN n⟩
end Go.Proofs.Ytmpeogmlnajliaa
