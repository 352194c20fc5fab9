
/-
  What is held while a law's points are copied: the cells of two points. No condition.
-/
import Derived.Test.YthknpnoceabmbaaDoorOn
import Derived.Deep.RegionHeld3
import Derived.Deep.DeepCutAuto
namespace Go.Proofs.YthknpnoceabmbaaDoor
open Go.RowKit

theorem held2 {W w' : World} {b : Nat} {u v x y : Value} (h0 : W.cell? ⟨b, 0, none⟩ = some u) (h1 : W.cell? ⟨b, 1, none⟩ = some v) (h2 : W.cell? ⟨b + 1, 0, none⟩ = some x) (h3 : W.cell? ⟨b + 1, 1, none⟩ = some y) (h : On W w') :
    On W w' ∧ w'.cell? ⟨b, 0, none⟩ = some u ∧ w'.cell? ⟨b, 1, none⟩ = some v ∧ w'.cell? ⟨b + 1, 0, none⟩ = some x ∧ w'.cell? ⟨b + 1, 1, none⟩ = some y :=
  ⟨h, (h.cell (World.block_lt_of_cell? W _ h0)).trans h0, (h.cell (World.block_lt_of_cell? W _ h1)).trans h1, (h.cell (World.block_lt_of_cell? W _ h2)).trans h2, (h.cell (World.block_lt_of_cell? W _ h3)).trans h3⟩
theorem held1 {W w' : World} {b : Nat} {u v : Value} (h0 : W.cell? ⟨b, 0, none⟩ = some u) (h1 : W.cell? ⟨b, 1, none⟩ = some v) (h : On W w') :
    On W w' ∧ w'.cell? ⟨b, 0, none⟩ = some u ∧ w'.cell? ⟨b, 1, none⟩ = some v :=
  ⟨h, (h.cell (World.block_lt_of_cell? W _ h0)).trans h0, (h.cell (World.block_lt_of_cell? W _ h1)).trans h1⟩
theorem On.undrew {w w' : World} (h : On w.drew w') : On w w' := by
  have h' : Below w.drew.heap.size w.drew w' := h
  exact ⟨h'.os, h'.tape, h'.output, h'.size, fun k hk => h'.block k hk⟩
theorem On.last {w w' : World} {o : Obj} (h : On (w.alloc o) w') : w.heap.size < w'.heap.size := by
  have := h.size
  simp at this
  omega
end Go.Proofs.YthknpnoceabmbaaDoor
