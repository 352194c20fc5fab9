
/-
  The losses of a circle, both ends included, in the program: an array of 37 numbers, by value; and the loss at a horizontal angle. Conditions: each theorem's own.
-/
import Derived.Test.YtmfhhmlndclkiaaAntAt
import Derived.Laws.CopyOwn
import Derived.Deep.RegionLaw
import Derived.Deep.WholeRow
import Derived.Deep.Cut
namespace Go.Proofs.Ytmfhhmlndclkiaa.Ant
open Go.RowKit
open Plain
open Ints (Ints Own)

/-- A list's first n numbers, as cells. -/
def cellsOf (hs : List Int) (n : Nat) : List Value := (List.range n).map fun i => .int .i64 (hs.getD i 0)
theorem cells_length (hs : List Int) (n : Nat) : (cellsOf hs n).length = n := by simp [cellsOf]
theorem cells_get (hs : List Int) (n i : Nat) (h : i < n) : (cellsOf hs n)[i]? = some (.int .i64 (hs.getD i 0)) := by simp [cellsOf, h]
theorem cells_one (hs : List Int) (n : Nat) : ∀ v ∈ cellsOf hs n, v.oneCell' = true := by
  intro v hv
  simp only [cellsOf, List.mem_map] at hv
  obtain ⟨i, _, rfl⟩ := hv
  rfl
/-- The circle, as an array. -/
def ringA (hs : List Int) : Array Value := ((List.range 37).map fun i => Value.int .i64 (ring hs i)).toArray
theorem ringA_size (hs : List Int) : (ringA hs).size = 37 := by simp [ringA]
theorem ringA_get (hs : List Int) (i : Nat) (h : i < 37) : (ringA hs)[i]? = some (.int .i64 (ring hs i)) := by simp [ringA, h]
theorem ringA_one (hs : List Int) : (ringA hs).all (·.oneCell') = true := by
  rw [Array.all_eq_true]
  intro i hi
  simp only [ringA_size] at hi
  have := ringA_get hs i hi
  rw [Array.getElem?_eq_getElem (by rw [ringA_size]; exact hi)] at this
  injection this with this
  rw [this]
  rfl
theorem heap_setCell {w : World} {g i : Nat} {c : Array Value} {t : TypeId} {fr : Nat × Nat} (h : w.heap[g]? = some (.cells c t fr)) (v : Value) : (w.setCell ⟨g, i, none⟩ v).heap[g]? = some (.cells (c.setIfInBounds i v) t fr) := by
  simp [World.setCell, Array.getElem?_modify, h]
theorem ring_of_splice (hs : List Int) (Z : List Value) (hz : Z.length = 37) : (splice Z 0 (cellsOf hs 36)).toArray.setIfInBounds 36 (.int .i64 (hs.getD 0 0)) = ringA hs := by
  apply Array.ext_getElem?
  intro i
  rw [Array.getElem?_setIfInBounds]
  have hl := length_splice Z 0 (cellsOf hs 36) (by rw [cells_length]; omega)
  by_cases h36 : i = 36
  · subst h36
    rw [if_pos rfl, if_pos (by simp; omega), ringA_get _ _ (by omega)]
    rfl
  · rw [if_neg (fun h => h36 h.symm)]
    by_cases hi : i < 36
    · rw [ringA_get _ _ (by omega)]
      have : (splice Z 0 (cellsOf hs 36))[i]? = some (.int .i64 (hs.getD i 0)) := by
        unfold splice
        rw [List.take_zero, List.nil_append, List.getElem?_append_left (by rw [cells_length]; exact hi)]
        exact cells_get hs 36 i hi
      rw [List.getElem?_toArray, this]
      unfold ring
      rw [if_neg h36]
    · rw [Array.getElem?_eq_none (by simp; omega), Array.getElem?_eq_none (by rw [ringA_size]; omega)]
theorem heap3 (w : World) (A B C : Obj) : (((w.alloc A).alloc B).alloc C).drew.heap[w.heap.size + 1 + 1]? = some C := by
  have h := heap_alloc_last ((w.alloc A).alloc B) C
  rw [show ((w.alloc A).alloc B).heap.size = w.heap.size + 1 + 1 by simp] at h
  exact h
theorem info68 : (Try.prog.info? 102).map (·.size) = some 37 := by kernel_rfl
theorem info2s : (Try.prog.info? 2).map (·.size) = some 1 := by kernel_rfl
theorem under68 : Try.prog.underlying 102 = some (.array 37 2) := by kernel_rfl
set_option maxHeartbeats 2000000 in
theorem impl_around (x0 : ByteArray) (x1 : Int) (v2 v3 : Value) (z2 : List Int) (w : World) (n36 : z2.length = 36) (hv : ∃ a n c, v3 = .slice a n c) (h2 : Ints w v2 z2) :
    Calls Try.prog 73 #[.agg #[.string x0, .int .i64 x1, v2, v3]] w fun e w' => e = .returned (.agg (ringA z2)) ∧ On w w' := by
  have h2' := h2
  obtain ⟨a3, m3, cap3, rfl⟩ := hv
  obtain ⟨a2, cap2, rfl, -⟩ := h2
  obtain ⟨b2, o2, rfl, hb2, hc2⟩ := slice_of h2' (by omega)
  have HC := Lib.hid hc2
  have HN := Lib.hid n36
  have hsrc : ∀ W : World, On w W → ∀ j v, (cellsOf z2 36)[j]? = some v → W.cell? ((⟨b2, o2, none⟩ : Addr).add j) = some v := by
    intro W hW j v hv
    by_cases hj : j < 36
    · rw [cells_get _ _ _ hj] at hv
      injection hv with hv
      rw [← hv, show (⟨b2, o2, none⟩ : Addr).add j = ⟨b2, o2 + j, none⟩ by cases j <;> simp [Addr.add]]
      exact (hW.cell (by exact hb2)).trans (hc2 j (by omega))
    · rw [List.getElem?_eq_none (by rw [cells_length]; omega)] at hv
      cases hv
  have HSRC := Lib.hid hsrc
  clear hsrc
  obtain ⟨y, hy⟩ : ∃ y, y = z2.getD 0 0 := ⟨_, rfl⟩
  have hr := ring_of_splice z2 (List.replicate 37 (.int .i64 0)) (by simp)
  rw [← hy] at hr
  have HR := Lib.hid hr
  have HY := Lib.hid hy
  clear hr hy
  rw [n36]
  clear h2' hc2 n36
  go_enter Try.func73, Try.ntmps73
  go_wp2_with fail
  go_region_law? (refine step_copy_splice rfl (.tmp 4) (.tmp 6) 24 24 rfl 2 Try.underlying24 info2s (some ⟨w.heap.size + 1 + 1, 0, none⟩) (some ⟨b2, o2, none⟩) 37 37 36 cap2 (by simp [Act.eval]) (by simp [Act.eval]) (w.heap.size + 1 + 1) 0 (List.replicate 37 (.int .i64 0)) 102 (heap3 w _ _ _) (cellsOf z2 36) (by rw [cells_length]; rfl) (fun _ => ⟨rfl, ⟨b2, o2, none⟩, rfl, HSRC.out _ (by repeat (first | with_reducible exact On.refl _ | apply On.drew | apply On.alloc))⟩) (by rw [cells_length]; simp) (cells_one z2 36) (w.heap.size + 1 + 1) _ (Below.drew (Below.alloc (Below.refl (w.heap.size + 1 + 1) _) (by simp) _)) (Nat.le_refl _) ?_; intro w4 hg4 hb4)
  have hO : On w w4 := On.trans (On.alloc (On.alloc (On.refl w) _) _) (Below.mono hb4 (by simp))
  have HO := Lib.hid hO
  have G1 := Lib.hid ((hb4.block (w.heap.size + 1) (by omega)).trans (heap_alloc2_new w _ _))
  have hl := length_splice (List.replicate 37 (Value.int .i64 0)) 0 (cellsOf z2 36) (by rw [cells_length]; simp)
  have c0 : w4.cell? ⟨w.heap.size + 1 + 1, 0, none⟩ = some (.int .i64 y) := by
    rw [cell_of_row w4 _ 0 _ _ _ hg4.out, HY.out]
    rfl
  have c36 : w4.cell? ⟨w.heap.size + 1 + 1, 36, none⟩ = some (.int .i64 0) := by
    rw [cell_of_row w4 _ 36 _ _ _ hg4.out]
    rfl
  have f36 : w4.frozen? ⟨w.heap.size + 1 + 1, 36, none⟩ = false := by simp [World.frozen?, hg4.out]
  have hG := heap_setCell (i := 36) hg4.out (.int .i64 y)
  rw [HR.out] at hG
  have G2 := (Go.Deep.blk_setCell_other w4 ⟨w.heap.size + 1 + 1, 36, none⟩ (.int .i64 y) (w.heap.size + 1) (by simp)).trans G1.out
  have HG := Lib.hid hG
  have HG2 := Lib.hid G2
  clear hO hb4 hg4 hl hG G2
  go_upto_region 4 with fail
  go_wp2_with (first
    | refine wpList_load_row rfl 102 (.tmp 3) rfl (w.heap.size + 1 + 1) rfl 102 (ringA z2) (0, 0) _ HG.out under68 rfl (by rw [ringA_size]; exact info68) ?_
    | refine wpList_store_row rfl 102 (.tmp 2) (.tmp 11) rfl (w.heap.size + 1) (ringA z2) rfl rfl 102 _ HG2.out (by rw [ringA_size]; exact info68) (by rw [ringA_size]; rfl) (ringA_one z2) ?_)
  refine bodyPost_ret (v := .agg (ringA z2)) (results_cell_row (p := 2) (ty := 102) Try.results73 _ _ (w.heap.size + 1) 102 (ringA z2) (0, 0) _ rfl (setRow_heap _ _ _ _ _ _ HG2.out) under68 rfl (by rw [ringA_size]; exact info68)) rfl ⟨rfl, ?_⟩
  exact below_setRow (On.setCell HO.out (by simp; omega) _) (by omega) _
end Go.Proofs.Ytmfhhmlndclkiaa.Ant
