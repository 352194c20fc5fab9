
/-
  Plain facts on the parts of a line that are not empty, with no program in them.
-/
import Derived.Test.YtnambnddoebeiaaDoorPieces
namespace Go.Proofs.YtnambnddoebeiaaDoor.Plain
open Go Go.Lib

def wordsTo (ps : List (List UInt8)) (k : Nat) : List (List UInt8) := (ps.take k).filter (fun p => !p.isEmpty)
theorem wordsTo_zero (ps : List (List UInt8)) : wordsTo ps 0 = [] := rfl
theorem wordsTo_skip {ps : List (List UInt8)} {k : Nat} (hk : k < ps.length) (h : ps[k] = []) : wordsTo ps (k + 1) = wordsTo ps k := by
  unfold wordsTo
  rw [List.take_succ_eq_append_getElem hk, List.filter_append, h]
  simp
theorem wordsTo_add {ps : List (List UInt8)} {k : Nat} (hk : k < ps.length) (h : ps[k] ≠ []) : wordsTo ps (k + 1) = wordsTo ps k ++ [ps[k]] := by
  unfold wordsTo
  rw [List.take_succ_eq_append_getElem hk, List.filter_append]
  congr 1
  simp [h]
theorem wordsTo_len {ps : List (List UInt8)} {k : Nat} : (wordsTo ps k).length ≤ k := by
  unfold wordsTo
  have h1 := List.length_filter_le (fun p : List UInt8 => !p.isEmpty) (ps.take k)
  rw [List.length_take] at h1
  omega
/-- The words of a line. -/
def words (l : List UInt8) : List (List UInt8) := wordsTo (pieces 32 l) (pieces 32 l).length
theorem split_len (s : ByteArray) : countB s ⟨#[32]⟩ + 1 = (pieces 32 s.data.toList).length := by
  rw [pieces_len, ← count_one 32 _ _ (Nat.le_refl _)]
theorem split_data (s : ByteArray) : (splitB ⟨#[32]⟩ 0 (countB s ⟨#[32]⟩) s).map (·.data.toList) = pieces 32 s.data.toList := by
  rw [splitB_data, ← split_pieces 32 s.data.toList]
end Go.Proofs.YtnambnddoebeiaaDoor.Plain
