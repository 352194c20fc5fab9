
/-
  The text of a point, read, in the model and in the program. Conditions: a text of at most 1048576 bytes; for the program's, what the library's variables hold.
-/
import Derived.Test.YtnambnddoebeiaaDoorReadPtPlain
import Derived.Test.YtnambnddoebeiaaDoorSplit
import Derived.Test.YtnambnddoebeiaaDoorNum
import Derived.Test.YtnambnddoebeiaaDoorOn
import Derived.Test.YtnambnddoebeiaaDoorOnH
import Derived.Test.YtnambnddoebeiaaDoorTabs
import Derived.Test.YtnambnddoebeiaaDoorReadDec
import Derived.Test.YtnambnddoebeiaaDoorShelfCut
namespace Go.Proofs.YtnambnddoebeiaaDoor.ReadPt
open Go.RowKit
open Plain
open Split (strV strCells)
open Point (okB)

theorem row_strs {w : World} {B e : Nat} {v : Value} {ps : List (List UInt8)} (h : w.ownsRow B e 1 v ps.length (strCells ps)) (h0 : 0 < ps.length) :
    ∃ g cap, v = .slice (some ⟨g, 0, none⟩) ps.length cap ∧ B ≤ g ∧ g < w.heap.size ∧ ∀ j (hj : j < ps.length), w.cell? ⟨g, j, none⟩ = some (strV ps[j]) := by
  have hlt := h.lt
  have hc := fun g (hg : v.ownBlock = some g) => h.cells hg
  obtain ⟨_, ⟨_, h2⟩ | ⟨g, cap, cur, rfl, hB, _⟩⟩ := h
  · omega
  · refine ⟨g, cap, rfl, hB, (hlt g rfl).2, fun j hj => ?_⟩
    have := hc g rfl j (strV ps[j]) (by simp [strCells, List.getElem?_eq_getElem hj])
    have e : (⟨g, 0, none⟩ : Addr).add j = ⟨g, j, none⟩ := by cases j <;> simp [Addr.add]
    rw [e] at this
    exact this
def rpR (l : List UInt8) : Ending := .returned (.tuple #[.agg #[.int .i64 (rX l), .int .i64 (rY l)], .bool (rB l)])
theorem rpR_no {l : List UInt8} (h : rX l = 0 ∧ rY l = 0 ∧ rB l = false) : rpR l = .returned (.tuple #[.agg #[.int .i64 0, .int .i64 0], .bool false]) := by unfold rpR; rw [h.1, h.2.1, h.2.2]
theorem rpR_yes {l : List UInt8} {x y : Int} (h : rX l = x ∧ rY l = y ∧ rB l = true) : rpR l = .returned (.tuple #[.agg #[.int .i64 x, .int .i64 y], .bool true]) := by unfold rpR; rw [h.1, h.2.1, h.2.2]

theorem len_le_of_piece {c : UInt8} : ∀ {l p : List UInt8} {n : Nat}, p ∈ pieces c l → l.length ≤ n → p.length ≤ n
  | [], p, n, h, hn => by
    have : p = [] := by simpa [pieces] using h
    rw [this]; exact Nat.zero_le _
  | b :: r, p, n, h, hn => by
    rw [List.length_cons] at hn
    unfold pieces at h
    split at h
    · rcases List.mem_cons.1 h with rfl | h'
      · exact Nat.zero_le _
      · have := len_le_of_piece (n := n - 1) h' (by omega); omega
    · split at h
      · rename_i hp
        exact absurd hp (pieces_ne c r)
      · rename_i q qs hp
        rcases List.mem_cons.1 h with rfl | h'
        · have := len_le_of_piece (p := q) (n := n - 1) (by rw [hp]; exact List.mem_cons_self) (by omega)
          rw [List.length_cons]; omega
        · have := len_le_of_piece (p := p) (n := n - 1) (by rw [hp]; exact List.mem_cons_of_mem _ h') (by omega); omega

end Go.Proofs.YtnambnddoebeiaaDoor.ReadPt
