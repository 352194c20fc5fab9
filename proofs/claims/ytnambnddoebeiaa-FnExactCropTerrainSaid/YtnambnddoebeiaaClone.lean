
/-
  Copies of slices of numbers by append, in the model and in the library. Condition: at least one number, at most 1048576.
-/
import Derived.Test.YtnambnddoebeiaaInts
import Derived.Test.YtnambnddoebeiaaOn
import Derived.OwnWalk
import Derived.Laws.AppendOwn
import Derived.Lib.AppendIntMem
import Derived.Lib.SliceRun
namespace Go.Proofs.Ytnambnddoebeiaa.Clone
open Go.RowKit
open Ints (Ints Own)

def intCells (zs : List Int) : List Value := zs.map (.int .i64 ·)
theorem own_of_row {w : World} {B : Nat} {e : TypeId} {v : Value} {zs : List Int} (h : w.ownsRow B e 1 v zs.length (intCells zs)) : ∃ a cap, v = .slice a zs.length cap ∧ Own B w (.slice a zs.length cap) zs := by
  have hlt := h.lt
  have hc := fun g (hg : v.ownBlock = some g) => h.cells hg
  obtain ⟨_, ⟨rfl, h2⟩ | ⟨g, cap, cur, rfl, hB, hh, _⟩⟩ := h
  · exact ⟨none, 0, by rw [h2], none, 0, rfl, fun h0 => by omega⟩
  · refine ⟨_, cap, rfl, _, cap, rfl, fun _ => ⟨g, 0, rfl, hB, (hlt g rfl).2, fun j hj => ?_, fun j hj => ?_⟩⟩
    · simp [World.frozen?, hh]
    · have := hc g rfl j (.int .i64 (zs.getD j 0)) (by simp [intCells, hj])
      have e : (⟨g, 0, none⟩ : Addr).add j = ⟨g, 0 + j, none⟩ := by cases j <;> simp [Addr.add]
      rw [e] at this
      exact this
theorem add_at {b off j : Nat} : (⟨b, off, none⟩ : Addr).add j = ⟨b, off + j, none⟩ := by cases j <;> simp [Addr.add]
theorem news {w : World} {b off : Nat} {zs : List Int} (hc : ∀ i, i < zs.length → w.cell? ⟨b, off + i, none⟩ = some (.int .i64 (zs.getD i 0))) : ∀ j u, (intCells zs)[j]? = some u → w.cell? ((⟨b, off, none⟩ : Addr).add j) = some u := by
  intro j u h
  unfold intCells at h
  rw [List.getElem?_map, Option.map_eq_some_iff] at h
  obtain ⟨z, h1, h2⟩ := h
  have hj : j < zs.length := by
    rw [List.getElem?_eq_some_iff] at h1
    exact h1.1
  rw [add_at, hc j hj, ← h2]
  congr 2
  rw [List.getD_eq_getElem?_getD, h1]
  rfl
theorem ones (zs : List Int) : ∀ u ∈ intCells zs, u.oneCell' = true := by
  intro u hu
  unfold intCells at hu
  rw [List.mem_map] at hu
  obtain ⟨z, _, rfl⟩ := hu
  rfl
theorem cells_len (zs : List Int) : (intCells zs).length = zs.length * 1 := by simp [intCells]
end Go.Proofs.Ytnambnddoebeiaa.Clone
