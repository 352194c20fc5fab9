
/-
  Rows that are filled by copies, part by part. No condition.
-/
import Derived.Test.YtnambnddoebeiaaCrpG
import Derived.Laws.CopyOwn
namespace Go.Proofs.Ytnambnddoebeiaa.Crp
open Go.RowKit
open Plain Terr
open Ints (Ints Own)
open Ant (listOf listOf_len listOf_at listOf_succ)

/-- The first n numbers are there, the others are 0. -/
def part (f : Nat → Int) (n N : Nat) : List Int := listOf f n ++ List.replicate (N - n) 0
theorem part_zero (f : Nat → Int) (N : Nat) : part f 0 N = List.replicate N 0 := by simp [part, listOf]
theorem part_full (f : Nat → Int) (N : Nat) : part f N N = listOf f N := by simp [part]
theorem part_len (f : Nat → Int) {n N : Nat} (h : n ≤ N) : (part f n N).length = N := by simp [part, listOf_len]; omega
theorem listOf_add (f : Nat → Int) (n A : Nat) : listOf f (n + A) = listOf f n ++ listOf (fun j => f (n + j)) A := by
  unfold listOf
  rw [List.range_add, List.map_append, List.map_map]
  rfl
theorem part_splice (f : Nat → Int) {n A N : Nat} (h : n + A ≤ N) :
    (Clone.intCells (part f n N)).take n ++ (Clone.intCells (listOf (fun j => f (n + j)) A) ++ (Clone.intCells (part f n N)).drop (n + A)) = Clone.intCells (part f (n + A) N) := by
  unfold Clone.intCells
  rw [← List.map_take, ← List.map_drop, ← List.map_append, ← List.map_append]
  congr 1
  unfold part
  rw [List.take_left' (listOf_len f n), List.drop_append, listOf_len, List.drop_eq_nil_of_le (by rw [listOf_len]; omega), List.nil_append, List.drop_replicate, listOf_add, List.append_assoc]
  congr 3
  omega
theorem cells_len (zs : List Int) : (Clone.intCells zs).length = zs.length := by simp [Clone.intCells]
theorem cells_one (zs : List Int) : ∀ v ∈ Clone.intCells zs, v.oneCell' = true := by
  intro v hv
  unfold Clone.intCells at hv
  obtain ⟨z, _, rfl⟩ := List.mem_map.1 hv
  rfl
theorem cells_at {zs : List Int} {j : Nat} {v : Value} (h : (Clone.intCells zs)[j]? = some v) : j < zs.length ∧ v = .int .i64 (zs.getD j 0) := by
  unfold Clone.intCells at h
  rw [List.getElem?_map] at h
  cases e : zs[j]? with
  | none => rw [e] at h; cases h
  | some z =>
    rw [e] at h
    refine ⟨(List.getElem?_eq_some_iff.1 e).1, ?_⟩
    rw [List.getD_eq_getElem?_getD, e]
    injection h with h
    exact h.symm
/-- What is there of the part while it is filled. -/
structure Cop (A0 B0 g n : Nat) (s a b : Int) (hs cs : List Int) (W w : World) : Prop where
  ha : w.heap[A0]? = some (.cells (Clone.intCells hs).toArray 2 (0, 0))
  hb : w.heap[B0]? = some (.cells (Clone.intCells cs).toArray 2 (0, 0))
  st : TRec.In w g s a b (.slice (some ⟨A0, 0, none⟩) n n) (.slice (some ⟨B0, 0, none⟩) n n)
  on : On W w
section
variable {A0 B0 g n : Nat} {s a b : Int} {hs cs hs' : List Int} {W w w' : World}
theorem Cop.next (h : Cop A0 B0 g n s a b hs cs W w) (k : On w w') : Cop A0 B0 g n s a b hs cs W w' :=
  ⟨(k.block _ (Array.getElem?_eq_some_iff.1 h.ha).1).trans h.ha, (k.block _ (Array.getElem?_eq_some_iff.1 h.hb).1).trans h.hb, h.st.on k, On.trans h.on k⟩
theorem Cop.putA (h : Cop A0 B0 g n s a b hs cs W w) (hg : g ≠ A0) (hAB : A0 ≠ B0) (hW : W.heap.size ≤ A0) : Cop A0 B0 g n s a b hs' cs W (w.setRow A0 (Clone.intCells hs').toArray) :=
  ⟨setRow_heap w A0 _ _ _ (0, 0) h.ha, (setRow_other w A0 B0 _ (Ne.symm hAB)).trans h.hb, TRec.In.keep h.st fun _ => World.cell?_of_block (setRow_other w A0 g _ hg), below_setRow h.on hW _⟩
theorem Cop.putB (h : Cop A0 B0 g n s a b hs cs W w) (hg : g ≠ B0) (hAB : A0 ≠ B0) (hW : W.heap.size ≤ B0) : Cop A0 B0 g n s a b hs hs' W (w.setRow B0 (Clone.intCells hs').toArray) :=
  ⟨(setRow_other w B0 A0 _ hAB).trans h.ha, setRow_heap w B0 _ _ _ (0, 0) h.hb, TRec.In.keep h.st fun _ => World.cell?_of_block (setRow_other w B0 g _ hg), below_setRow h.on hW _⟩
end
/-- A row of noughts, as its block holds it. -/
theorem zeros {w : World} {b n : Nat} (h : w.rowIs b 2 n (fun _ => .int .i64 0)) : w.heap[b]? = some (.cells (Clone.intCells (List.replicate n 0)).toArray 2 (0, 0)) := by
  obtain ⟨c, hb, hs, hc⟩ := h
  rw [hb]
  congr 2
  refine Array.ext (by simp [Clone.intCells, hs]) fun i h1 h2 => ?_
  have := hc i (by omega)
  rw [Array.getElem?_eq_getElem h1] at this
  injection this with this
  rw [this]
  simp [Clone.intCells]
theorem own_row {w : World} {b : Nat} {zs : List Int} {B : Nat} (h : w.heap[b]? = some (.cells (Clone.intCells zs).toArray 2 (0, 0))) (hB : B ≤ b) : Own B w (.slice (some ⟨b, 0, none⟩) zs.length zs.length) zs := by
  refine Own.of_row (t := 2) ⟨_, h, by simp [Clone.intCells], fun i hi => ?_⟩ hB
  simp [Clone.intCells, List.getD_eq_getElem?_getD, hi]
/-- The rest of a slice. -/
theorem slr (b off n cap q : Nat) (h1 : q < n) (h2 : n ≤ cap) (w : World) :
    (Instr.slice 22 (.slice (some ⟨b, off, none⟩) n cap) (some (.int .i64 (q : Int))) none none).run Try.prog w = .ok (.slice (some ⟨b, off + q, none⟩) (n - q) (cap - q)) w := by
  have hne : ¬ cap = q := by omega
  rw [run_slice_l w 22 _ n cap Try.underlying22 _ _ (by omega) (by omega)]
  simp [go_sem, sliced, hne, Addr.add]
set_option maxHeartbeats 1000000 in
theorem idxP (s : Int) (X Y k p u q : Nat) (w : World) (hu : u = k * X) (hq : q = u + p) (h : q ≤ 1000) :
    Calls Try.prog 35 #[.agg #[.int .i64 s, .int .i64 (X : Int), .int .i64 (Y : Int)], .int .i64 (p : Int), .int .i64 (k : Int)] w fun e w' => e = .returned (.int .i64 (q : Int)) ∧ On w w' := by
  have e1 : IntKind.i64.wrap ((k : Int) * (X : Int)) = (u : Int) := by
    rw [show (k : Int) * (X : Int) = (u : Int) by rw [hu]; simp]
    exact IntWalk.i64_in _ (by omega)
  have e2 : IntKind.i64.wrap ((u : Int) + (p : Int)) = (q : Int) := by
    rw [show (u : Int) + (p : Int) = (q : Int) by omega]
    exact IntWalk.i64_in _ (by omega)
  clear hu hq
  go_enter Try.func35, Try.ntmps35
  go_wp2_with fail
  go_ret
  exact ⟨rfl, by repeat (first | with_reducible exact On.refl _ | apply On.alloc)⟩
end Go.Proofs.Ytnambnddoebeiaa.Crp
