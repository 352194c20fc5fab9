
/-
  A struct's five numbers, stored one by one. Conditions: each theorem's own.
-/
import Derived.Test.YtednfkjdidlenaaDoorRainLaw
namespace Go.Proofs.YtednfkjdidlenaaDoor.RainLaw
open Go.RowKit

theorem off_ne {b i j : Nat} (h : i ≠ j) : (⟨b, i, none⟩ : Addr) ≠ ⟨b, j, none⟩ := fun e => by injection e with _ e2 _; exact h e2
/-- Five stores into a block's first five cells. -/
theorem five {W w : World} {b : Nat} {v0 v1 v2 v3 v4 : Value} (h : ∀ i, i < 5 → w.cell? ⟨b, i, none⟩ = some (.int .i64 0))
    (hO : On W (((((w.setCell ⟨b, 0, none⟩ v0).setCell ⟨b, 1, none⟩ v1).setCell ⟨b, 2, none⟩ v2).setCell ⟨b, 3, none⟩ v3).setCell ⟨b, 4, none⟩ v4)) :
    b < (((((w.setCell ⟨b, 0, none⟩ v0).setCell ⟨b, 1, none⟩ v1).setCell ⟨b, 2, none⟩ v2).setCell ⟨b, 3, none⟩ v3).setCell ⟨b, 4, none⟩ v4).heap.size ∧ (((((w.setCell ⟨b, 0, none⟩ v0).setCell ⟨b, 1, none⟩ v1).setCell ⟨b, 2, none⟩ v2).setCell ⟨b, 3, none⟩ v3).setCell ⟨b, 4, none⟩ v4).cell? ⟨b, 0, none⟩ = some v0 ∧ (((((w.setCell ⟨b, 0, none⟩ v0).setCell ⟨b, 1, none⟩ v1).setCell ⟨b, 2, none⟩ v2).setCell ⟨b, 3, none⟩ v3).setCell ⟨b, 4, none⟩ v4).cell? ⟨b, 1, none⟩ = some v1 ∧ (((((w.setCell ⟨b, 0, none⟩ v0).setCell ⟨b, 1, none⟩ v1).setCell ⟨b, 2, none⟩ v2).setCell ⟨b, 3, none⟩ v3).setCell ⟨b, 4, none⟩ v4).cell? ⟨b, 2, none⟩ = some v2 ∧ (((((w.setCell ⟨b, 0, none⟩ v0).setCell ⟨b, 1, none⟩ v1).setCell ⟨b, 2, none⟩ v2).setCell ⟨b, 3, none⟩ v3).setCell ⟨b, 4, none⟩ v4).cell? ⟨b, 3, none⟩ = some v3 ∧ (((((w.setCell ⟨b, 0, none⟩ v0).setCell ⟨b, 1, none⟩ v1).setCell ⟨b, 2, none⟩ v2).setCell ⟨b, 3, none⟩ v3).setCell ⟨b, 4, none⟩ v4).cell? ⟨b, 4, none⟩ = some v4 ∧ On W (((((w.setCell ⟨b, 0, none⟩ v0).setCell ⟨b, 1, none⟩ v1).setCell ⟨b, 2, none⟩ v2).setCell ⟨b, 3, none⟩ v3).setCell ⟨b, 4, none⟩ v4) := by
  have O {w : World} {i j : Nat} {v : Value} (h : i ≠ j) : (w.setCell ⟨b, i, none⟩ v).cell? ⟨b, j, none⟩ = w.cell? ⟨b, j, none⟩ := World.cell?_setCell_other (h := off_ne h) ..
  have hb := World.block_lt_of_cell? w _ (h 0 (by decide))
  refine ⟨by simpa using hb, ?_, ?_, ?_, ?_, ?_, hO⟩
  · rw [O (by decide), O (by decide), O (by decide), O (by decide)]; exact World.cell?_setCell_same (h := h 0 (by decide)) ..
  · rw [O (by decide), O (by decide), O (by decide)]; exact World.cell?_setCell_same (h := (O (by decide)).trans (h 1 (by decide))) ..
  · rw [O (by decide), O (by decide)]; exact World.cell?_setCell_same (h := (O (by decide)).trans ((O (by decide)).trans (h 2 (by decide)))) ..
  · rw [O (by decide)]; exact World.cell?_setCell_same (h := (O (by decide)).trans ((O (by decide)).trans ((O (by decide)).trans (h 3 (by decide))))) ..
  · exact World.cell?_setCell_same (h := (O (by decide)).trans ((O (by decide)).trans ((O (by decide)).trans ((O (by decide)).trans (h 4 (by decide)))))) ..
/-- The cells of a new block of five zeros, below later blocks and a call. -/
theorem zeros {w' : World} {b : Nat} {Z : World} {t : TypeId} (hc : ∀ b o, b < Z.heap.size → w'.cell? ⟨b, o, none⟩ = Z.cell? ⟨b, o, none⟩) (hz : Z.heap[b]? = some (.cells #[.int .i64 0, .int .i64 0, .int .i64 0, .int .i64 0, .int .i64 0] t (0, 0))) (i : Nat) (hi : i < 5) : w'.cell? ⟨b, i, none⟩ = some (.int .i64 0) := by
  rw [hc b i (Array.getElem?_eq_some_iff.1 hz).1]
  match i, hi with
  | 0, _ => simp [World.cell?, hz]
  | 1, _ => simp [World.cell?, hz]
  | 2, _ => simp [World.cell?, hz]
  | 3, _ => simp [World.cell?, hz]
  | 4, _ => simp [World.cell?, hz]
theorem z1 (W : World) (A B C : Obj) : (((W.alloc A).alloc B).alloc C).heap[W.heap.size]? = some A := by
  show (((W.heap.push A).push B).push C)[W.heap.size]? = some A
  rw [Array.getElem?_push, if_neg (by simp; omega), Array.getElem?_push, if_neg (by simp), Array.getElem?_push, if_pos rfl]
theorem z2 (W : World) (A B C : Obj) : (((W.alloc A).alloc B).alloc C).heap[W.heap.size + 1]? = some B := by
  show (((W.heap.push A).push B).push C)[W.heap.size + 1]? = some B
  rw [Array.getElem?_push, if_neg (by simp), Array.getElem?_push, if_pos (by simp)]
theorem z3 (W : World) (A B C : Obj) : (((W.alloc A).alloc B).alloc C).heap[W.heap.size + 1 + 1]? = some C := by
  show (((W.heap.push A).push B).push C)[W.heap.size + 1 + 1]? = some C
  rw [Array.getElem?_push, if_pos (by simp)]
/-- A new block of five cells. -/
theorem fresh5 {W w : World} {v0 v1 v2 v3 v4 : Value} {t : TypeId} (hO : On W (w.alloc (.cells #[v0, v1, v2, v3, v4] t))) :
    w.heap.size < (w.alloc (.cells #[v0, v1, v2, v3, v4] t)).heap.size ∧ (w.alloc (.cells #[v0, v1, v2, v3, v4] t)).cell? ⟨w.heap.size, 0, none⟩ = some v0 ∧ (w.alloc (.cells #[v0, v1, v2, v3, v4] t)).cell? ⟨w.heap.size, 1, none⟩ = some v1 ∧ (w.alloc (.cells #[v0, v1, v2, v3, v4] t)).cell? ⟨w.heap.size, 2, none⟩ = some v2 ∧ (w.alloc (.cells #[v0, v1, v2, v3, v4] t)).cell? ⟨w.heap.size, 3, none⟩ = some v3 ∧ (w.alloc (.cells #[v0, v1, v2, v3, v4] t)).cell? ⟨w.heap.size, 4, none⟩ = some v4 ∧ On W (w.alloc (.cells #[v0, v1, v2, v3, v4] t)) :=
  ⟨by simp, by simp [go_sem], by simp [go_sem], by simp [go_sem], by simp [go_sem], by simp [go_sem], hO⟩
end Go.Proofs.YtednfkjdidlenaaDoor.RainLaw
