
/-
  The words of a line, in the model. Condition: a line of at most 1048576 bytes.
-/
import Derived.Test.YtnambnddoebeiaaDoorWordsPlain
import Derived.Test.YtnambnddoebeiaaDoorReadPt
import Derived.Test.YtnambnddoebeiaaDoorStrs
namespace Go.Proofs.YtnambnddoebeiaaDoor.Words
open Go.RowKit
open Plain
open Split (strV strCells)
open Strs (Strs Own noText)

/-- The words as texts. -/
def texts (ps : List (List UInt8)) : List ByteArray := ps.map fun p => ⟨p.toArray⟩
theorem texts_length (ps : List (List UInt8)) : (texts ps).length = ps.length := by simp [texts]
theorem own_row {w : World} {B e : Nat} {v : Value} {ps : List (List UInt8)} (h : w.ownsRow B e 1 v ps.length (strCells ps)) : Own B w v (texts ps) := by
  have hlt := h.lt
  have hc := fun g (hg : v.ownBlock = some g) => h.cells hg
  obtain ⟨_, ⟨rfl, h2⟩ | ⟨g, cap, cur, rfl, hB, hh, _⟩⟩ := h
  · exact ⟨none, 0, by rw [texts_length, h2], fun h0 => by rw [texts_length] at h0; omega⟩
  · refine ⟨_, cap, by rw [texts_length], fun _ => ⟨g, 0, rfl, hB, (hlt g rfl).2, fun j hj => ?_, fun j hj => ?_⟩⟩
    · simp [World.frozen?, hh]
    · rw [texts_length] at hj
      have := hc g rfl j (.string ((texts ps).getD j noText)) (by simp [strCells, texts, strV, hj])
      have e : (⟨g, 0, none⟩ : Addr).add j = ⟨g, 0 + j, none⟩ := by cases j <;> simp [Addr.add]
      rw [e] at this
      exact this
theorem str_empty {b : ByteArray} (h : b.data.toList = []) : b = ⟨#[]⟩ := by
  have : b = ⟨b.data.toList.toArray⟩ := rfl
  rw [this, h]
theorem str_some {b : ByteArray} (h : b.data.toList ≠ []) : (b.toList == []) = false := beq_eq_false_iff_ne.2 (fun e => h (by rw [← ByteArray.toList_eq]; exact e))
end Go.Proofs.YtnambnddoebeiaaDoor.Words
