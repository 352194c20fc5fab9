
/-
  Plain facts on lists all of whose numbers pass a test, with no program in them.
-/
import Derived.Test.YtofoffdmhekceaaProg
namespace Go.Proofs.Ytofoffdmhekceaa.Plain

/-- The first k numbers pass. -/
def AllTo (p : Int → Bool) (zs : List Int) (k : Nat) : Prop := ∀ i, i < k → p (zs.getD i 0) = true
theorem allTo_zero (p : Int → Bool) (zs : List Int) : AllTo p zs 0 := fun i h => by omega
theorem allTo_succ {p : Int → Bool} {zs : List Int} {k : Nat} (h : AllTo p zs k) (hk : p (zs.getD k 0) = true) : AllTo p zs (k + 1) := fun i hi => by
  by_cases g : i = k
  · rw [g]; exact hk
  · exact h i (by omega)
theorem all_bad {p : Int → Bool} {zs : List Int} {k : Nat} (hk : k < zs.length) (h : p (zs.getD k 0) = false) : zs.all p = false := by
  rw [List.all_eq_false]
  refine ⟨zs[k], List.getElem_mem hk, ?_⟩
  rw [show zs.getD k 0 = zs[k] from by simp [hk]] at h
  simp [h]
theorem all_all {p : Int → Bool} {zs : List Int} (h : AllTo p zs zs.length) : zs.all p = true := by
  rw [List.all_eq_true]
  intro x hx
  obtain ⟨i, hi, rfl⟩ := List.getElem_of_mem hx
  have := h i hi
  rw [show zs.getD i 0 = zs[i] from by simp [hi]] at this
  exact this
theorem allTo_of {p : Int → Bool} {zs : List Int} (h : zs.all p = true) : AllTo p zs zs.length := fun i hi => by
  rw [List.all_eq_true] at h
  have := h zs[i] (List.getElem_mem hi)
  rw [show zs.getD i 0 = zs[i] from by simp [hi]]
  exact this
end Go.Proofs.Ytofoffdmhekceaa.Plain
