
/-
  Terrains copied, with the room that the copies have. Condition: at most 1048576 numbers each.
-/
import Derived.Test.YtadoaenmmemjdaaDoorCopyFit
import Derived.Test.YtadoaenmmemjdaaDoorTerr0
namespace Go.Proofs.YtadoaenmmemjdaaDoor.Terr
open Go.RowKit
open Ints (Ints Own)

set_option maxHeartbeats 1000000 in
theorem toTerrainFit (s x y : Int) (v u : Value) (zs cs : List Int) (w : World) (hn : zs.length ≤ 1048576) (hm : cs.length ≤ 1048576) (h : Ints w v zs) (k : Ints w u cs) :
    Calls Tryd.prog 8 #[.agg #[.int .i64 s, .int .i64 x, .int .i64 y, v, u]] w fun e w' => ∃ a cap b dap, e = .returned (.agg #[.int .i64 s, .int .i64 x, .int .i64 y, .slice a zs.length cap, .slice b cs.length dap]) ∧ zs.length ≤ cap ∧ Own w.heap.size w' (.slice a zs.length cap) zs ∧ Own w.heap.size w' (.slice b cs.length dap) cs ∧ On w w' := by
  have HI := Lib.hid h
  have HJ := Lib.hid k
  obtain ⟨a, cap, rfl, -⟩ := h
  obtain ⟨b, dap, rfl, -⟩ := k
  have HC := Lib.hid (fun w' (hb : On w w') => Ints.copyFit _ zs w' hn (HI.out.below hb))
  have HD := Lib.hid (fun w' (hb : On w w') => Ints.copyOwn _ cs w' hm (HJ.out.below hb))
  go_enter Tryd.func8, Tryd.ntmps8
  go_wp2_with fail
  refine (HC.out _ (by repeat (first | exact On.refl _ | apply On.alloc | refine On.setCell ?_ (by (try simp) <;> omega) _))).mono ?_
  rintro e w1 ⟨a1, cap1, rfl, hfit, hi, hb⟩
  have hb' : On _ w1 := hb
  have HA := Lib.hid (hi.mono (B' := w.heap.size + 3) (by simp))
  clear hi
  obtain ⟨hc, hf⟩ := bcell hb'
  obtain ⟨z0, z1, z2⟩ : w.heap.size < w1.heap.size ∧ w.heap.size + 1 < w1.heap.size ∧ w.heap.size + 2 < w1.heap.size := by have := hb'.size; simp at this; omega
  have hO : On w w1 := by refine On.trans ?_ hb'; repeat (first | exact On.refl _ | apply On.alloc | refine On.setCell ?_ (by (try simp) <;> omega) _)
  go_wp2_with fail
  refine (HD.out _ (by repeat (first | with_reducible exact hO | refine On.setCell ?_ (by (try simp) <;> omega) _))).mono ?_
  rintro e w2 ⟨v2, rfl, hi2, hb2⟩
  have hb2' : On _ w2 := hb2
  have HB := Lib.hid (hi2.mono (B' := w.heap.size + 3) (by simp; omega))
  have HA2 := Lib.hid ((HA.out.setCell (by simp) _).below hb2')
  obtain ⟨b1, dap1, rfl, -⟩ := hi2
  obtain ⟨hc2, hf2⟩ := bcell hb2'
  obtain ⟨y0, y1, y2⟩ : w.heap.size < w2.heap.size ∧ w.heap.size + 1 < w2.heap.size ∧ w.heap.size + 2 < w2.heap.size := by have := hb2'.size; simp at this; omega
  have hO2 : On w w2 := by refine On.trans ?_ hb2'; repeat (first | with_reducible exact hO | refine On.setCell ?_ (by (try simp) <;> omega) _)
  go_wp2_with fail
  refine bodyPost_ret (v := .agg #[.int .i64 s, .int .i64 x, .int .i64 y, .slice a1 zs.length cap1, .slice b1 cs.length dap1]) (by simp [results, Tryd.results8, go_sem, hc, hc2, z1]) rfl ⟨a1, cap1, b1, dap1, rfl, hfit, ?_, ?_, ?_⟩
  · refine Own.mono (B := w.heap.size + 3) ?_ (by omega)
    repeat (first | with_reducible exact HA2.out | refine Own.setCell ?_ (by simp) _)
  · refine Own.mono (B := w.heap.size + 3) ?_ (by omega)
    repeat (first | with_reducible exact HB.out | refine Own.setCell ?_ (by simp) _)
  · repeat (first | with_reducible exact hO2 | (refine On.setCell ?_ (by (try simp) <;> omega) _))
end Go.Proofs.YtadoaenmmemjdaaDoor.Terr
