
/-
  Records Antenna: the laws' copy of one is a record of its own memory, its slices apart from each other. Condition: at most 1048576 numbers in each slice.
-/
import Derived.Test.YtmfhhmlndclkiaaAnt0
import Derived.Test.YtmfhhmlndclkiaaAntOwn
namespace Go.Proofs.Ytmfhhmlndclkiaa.Ant
open Go.RowKit
open Ints (Ints Own)
set_option maxHeartbeats 2000000 in
theorem copyR (x0 : ByteArray) (x1 : Int) (v2 v3 : Value) (z2 z3 : List Int) (w : World) (n2 : z2.length ≤ 1048576) (n3 : z3.length ≤ 1048576) (h2 : Ints w v2 z2) (h3 : Ints w v3 z3) :
    Calls Try.prog 32 #[.agg #[.string x0, .int .i64 x1, v2, v3]] w fun e w' => ∃ a2 cap2 a3 cap3, e = .returned (.agg #[.string x0, .int .i64 x1, .slice a2 z2.length cap2, .slice a3 z3.length cap3]) ∧ OwnR w.heap.size w' a2 z2.length cap2 a3 z3.length cap3 z2 z3 ∧ On w w' := by
  have H2 := Lib.hid h2
  have H3 := Lib.hid h3
  obtain ⟨a2, cap2, rfl, -⟩ := h2
  obtain ⟨a3, cap3, rfl, -⟩ := h3
  have C2 := Lib.hid (fun w' (hb : On w w') => Ints.copyFit _ z2 w' n2 (H2.out.below hb))
  have C3 := Lib.hid (fun w' (hb : On w w') => Ints.copyFit _ z3 w' n3 (H3.out.below hb))
  go_enter Try.func32, Try.ntmps32
  go_wp2_with fail
  refine (C2.out _ (by repeat (first | with_reducible exact On.refl _ | apply On.alloc | refine On.setCell ?_ (by (try simp) <;> omega) _))).mono ?_
  rintro e w1 ⟨b2, dap2, rfl, -, hi2, hb2⟩
  have hb1 : On _ w1 := hb2
  have A1 := Lib.hid (own_block rfl hi2)
  have B2_1 := Lib.hid (hi2.mono (B' := w.heap.size + 3) (by simp))
  clear hi2
  obtain ⟨hc1, hf1⟩ := bcell hb1
  obtain ⟨y1_0, y1_1, y1_2⟩ : w.heap.size < w1.heap.size ∧ w.heap.size + 1 < w1.heap.size ∧ w.heap.size + 2 < w1.heap.size := by have := hb1.size; simp at this; omega
  have hO1 : On w w1 := by refine On.trans ?_ hb1; repeat (first | with_reducible exact On.refl _ | apply On.alloc | refine On.setCell ?_ (by (try simp) <;> omega) _)
  go_wp2_with fail
  refine (C3.out _ (by repeat (first | with_reducible exact hO1 | refine On.setCell ?_ (by (try simp) <;> omega) _))).mono ?_
  rintro e w2 ⟨b3, dap3, rfl, -, hi3, hb3⟩
  have hb2 : On _ w2 := hb3
  have A2 := Lib.hid (show 0 < z3.length → ∀ q, b3 = some q → w1.heap.size ≤ q.block from fun h0 q hq => by have := own_ge rfl hi3 h0 q hq; simpa using this)
  have B3_2 := Lib.hid (hi3.mono (B' := w.heap.size + 3) (by simp; omega))
  have B2_2 := Lib.hid (((B2_1.out.setCell (by simp) _)).below hb2)
  clear hi3
  obtain ⟨hc2, hf2⟩ := bcell hb2
  obtain ⟨y2_0, y2_1, y2_2⟩ : w.heap.size < w2.heap.size ∧ w.heap.size + 1 < w2.heap.size ∧ w.heap.size + 2 < w2.heap.size := by have := hb2.size; simp at this; omega
  have hO2 : On w w2 := by refine On.trans ?_ hb2; repeat (first | with_reducible exact hO1 | refine On.setCell ?_ (by (try simp) <;> omega) _)
  go_wp2_with fail
  refine bodyPost_ret (v := .agg #[.string x0, .int .i64 x1, .slice b2 z2.length dap2, .slice b3 z3.length dap3]) (by simp [results, Try.results32, go_sem, hc1, y1_1, hc2]) rfl ⟨b2, dap2, b3, dap3, rfl, ⟨rfl, rfl, ?_, ?_, ?_⟩, ?_⟩
  · refine Own.mono (B := w.heap.size + 3) ?_ (by omega)
    repeat (first | with_reducible exact B2_2.out | refine Own.setCell ?_ (by simp) _)
  · refine Own.mono (B := w.heap.size + 3) ?_ (by omega)
    repeat (first | with_reducible exact B3_2.out | refine Own.setCell ?_ (by simp) _)
  · intro p0 q0 p q hp hq
    have e1 := A1.out p0 p hp
    have e2 := A2.out q0 q hq
    omega
  · repeat (first | with_reducible exact hO2 | (refine On.setCell ?_ (by (try simp) <;> omega) _))
end Go.Proofs.Ytmfhhmlndclkiaa.Ant
