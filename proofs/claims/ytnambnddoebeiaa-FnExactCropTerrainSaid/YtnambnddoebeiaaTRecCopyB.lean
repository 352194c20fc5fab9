
/-
  Records Terrain: the laws' copy of one is a record of its own memory, its slices apart from each other, with the room that they have. Condition: at most 1048576 numbers in each slice.
-/
import Derived.Test.YtnambnddoebeiaaTRec0
import Derived.Test.YtnambnddoebeiaaTRecOwn
namespace Go.Proofs.Ytnambnddoebeiaa.TRec
open Go.RowKit
open Ints (Ints Own)
set_option maxHeartbeats 2000000 in
theorem copyB (x0 : Int) (x1 : Int) (x2 : Int) (v3 v4 : Value) (z3 z4 : List Int) (w : World) (n3 : z3.length ≤ 1048576) (n4 : z4.length ≤ 1048576) (h3 : Ints w v3 z3) (h4 : Ints w v4 z4) :
    Calls Try.prog 9 #[.agg #[.int .i64 x0, .int .i64 x1, .int .i64 x2, v3, v4]] w fun e w' => ∃ a3 cap3 a4 cap4, e = .returned (.agg #[.int .i64 x0, .int .i64 x1, .int .i64 x2, .slice a3 z3.length cap3, .slice a4 z4.length cap4]) ∧ OwnR w.heap.size w' a3 z3.length cap3 a4 z4.length cap4 z3 z4 ∧ z3.length ≤ cap3 ∧ z4.length ≤ cap4 ∧ On w w' := by
  have H3 := Lib.hid h3
  have H4 := Lib.hid h4
  obtain ⟨a3, cap3, rfl, -⟩ := h3
  obtain ⟨a4, cap4, rfl, -⟩ := h4
  have C3 := Lib.hid (fun w' (hb : On w w') => Ints.copyFit _ z3 w' n3 (H3.out.below hb))
  have C4 := Lib.hid (fun w' (hb : On w w') => Ints.copyFit _ z4 w' n4 (H4.out.below hb))
  go_enter Try.func9, Try.ntmps9
  go_wp2_with fail
  refine (C3.out _ (by repeat (first | with_reducible exact On.refl _ | apply On.alloc | refine On.setCell ?_ (by (try simp) <;> omega) _))).mono ?_
  rintro e w1 ⟨b3, dap3, rfl, hroom, hi3, hb3⟩
  have hb1 : On _ w1 := hb3
  have A1 := Lib.hid (own_block rfl hi3)
  have B3_1 := Lib.hid (hi3.mono (B' := w.heap.size + 3) (by simp))
  clear hi3
  obtain ⟨hc1, hf1⟩ := bcell hb1
  obtain ⟨y1_0, y1_1, y1_2⟩ : w.heap.size < w1.heap.size ∧ w.heap.size + 1 < w1.heap.size ∧ w.heap.size + 2 < w1.heap.size := by have := hb1.size; simp at this; omega
  have hO1 : On w w1 := by refine On.trans ?_ hb1; repeat (first | with_reducible exact On.refl _ | apply On.alloc | refine On.setCell ?_ (by (try simp) <;> omega) _)
  go_wp2_with fail
  refine (C4.out _ (by repeat (first | with_reducible exact hO1 | refine On.setCell ?_ (by (try simp) <;> omega) _))).mono ?_
  rintro e w2 ⟨b4, dap4, rfl, hroom4, hi4, hb4⟩
  have hb2 : On _ w2 := hb4
  have A2 := Lib.hid (show 0 < z4.length → ∀ q, b4 = some q → w1.heap.size ≤ q.block from fun h0 q hq => by have := own_ge rfl hi4 h0 q hq; simpa using this)
  have B4_2 := Lib.hid (hi4.mono (B' := w.heap.size + 3) (by simp; omega))
  have B3_2 := Lib.hid (((B3_1.out.setCell (by simp) _)).below hb2)
  clear hi4
  obtain ⟨hc2, hf2⟩ := bcell hb2
  obtain ⟨y2_0, y2_1, y2_2⟩ : w.heap.size < w2.heap.size ∧ w.heap.size + 1 < w2.heap.size ∧ w.heap.size + 2 < w2.heap.size := by have := hb2.size; simp at this; omega
  have hO2 : On w w2 := by refine On.trans ?_ hb2; repeat (first | with_reducible exact hO1 | refine On.setCell ?_ (by (try simp) <;> omega) _)
  go_wp2_with fail
  refine bodyPost_ret (v := .agg #[.int .i64 x0, .int .i64 x1, .int .i64 x2, .slice b3 z3.length dap3, .slice b4 z4.length dap4]) (by simp [results, Try.results9, go_sem, hc1, y1_1, hc2]) rfl ⟨b3, dap3, b4, dap4, rfl, ⟨rfl, rfl, ?_, ?_, ?_⟩, hroom, hroom4, ?_⟩
  · refine Own.mono (B := w.heap.size + 3) ?_ (by omega)
    repeat (first | with_reducible exact B3_2.out | refine Own.setCell ?_ (by simp) _)
  · refine Own.mono (B := w.heap.size + 3) ?_ (by omega)
    repeat (first | with_reducible exact B4_2.out | refine Own.setCell ?_ (by simp) _)
  · intro p0 q0 p q hp hq
    have e1 := A1.out p0 p hp
    have e2 := A2.out q0 q hq
    omega
  · repeat (first | with_reducible exact hO2 | (refine On.setCell ?_ (by (try simp) <;> omega) _))
end Go.Proofs.Ytnambnddoebeiaa.TRec
