
/-
  Slices of numbers and terrains copied, with the room that the copies have. Condition: at most 1048576 numbers each.
-/
import Derived.Test.YtcdmijldkmmgmabInts
import Derived.Test.YtcdmijldkmmgmabTerr0
namespace Go.Proofs.Ytcdmijldkmmgmab.Ints
open Go.RowKit

theorem infoF : (Try.prog.info? 2).map (fun i => (i.zero, i.size, i.bytes)) = some (some (.int .i64 0), 1, 8) := by kernel_rfl
theorem fit_some (b off cap : Nat) (zs : List Int) (w : World) (hn : zs.length ≤ 1048576) (hlt : b < w.heap.size) (h0 : 0 < zs.length)
    (hcell : ∀ i, i < zs.length → w.cell? ⟨b, off + i, none⟩ = some (.int .i64 (zs.getD i 0))) :
    Calls Try.prog 40 #[.slice (some ⟨b, off, none⟩) zs.length cap] w fun e w' => ∃ a cap, e = .returned (.slice a zs.length cap) ∧ zs.length ≤ cap ∧ Own w.heap.size w' (.slice a zs.length cap) zs ∧ Below w.heap.size w w' := by
  have hmk := fun w => run_make_row' (P := Try.prog) 22 2 (.int .i64 0) 8 Try.underlying22 infoF rfl .i64 .i64 zs.length (by omega) (by omega) w
  have HC := Lib.hid hcell
  clear hcell
  go_enter Try.func40, Try.ntmps40
  go_wp2
  clear hmk
  go_loopw [4] (fun i wr => ∃ k : Nat, k ≤ zs.length ∧ i = .int .i64 k ∧ wr.rowIs w.heap.size 2 zs.length (fun j => if j < k then .int .i64 (zs.getD j 0) else .int .i64 0) ∧ Below w.heap.size w wr) (fun i _ => zs.length - (intOf i).toNat)
  case atStart =>
    refine ⟨0, Nat.zero_le _, rfl, ?_, (Below.refl _ _).alloc (Nat.le_refl _) _⟩
    exact (World.rowIs_made w (.int .i64 0) zs.length _).congr fun i _ => by simp
  case round =>
    obtain ⟨k, hk, rfl, hrow, hb⟩ := hrel
    have HR := Lib.hid hrow
    have HB := Lib.hid hb
    clear hrow hb
    by_cases hlt2 : k < zs.length
    · have hc1 : wr.cell? ⟨b, off + k, none⟩ = some (.int .i64 (zs.getD k 0)) := (HB.out.cell (by exact hlt)).trans (HC.out k hlt2)
      have hc2 : wr.cell? ⟨w.heap.size, k, none⟩ = some (.int .i64 0) := by have := HR.out.cell hlt2; rw [if_neg (by omega)] at this; exact this
      have hf2 : wr.frozen? ⟨w.heap.size, k, none⟩ = false := HR.out.frozen k
      go_wp2
      go_roundw
      case rel =>
        refine ⟨k + 1, by omega, by go_num, (HR.out.set k _).congr fun i _ => ?_, HB.out.setCell (by exact Nat.le_refl _) _⟩
        by_cases h1 : i = k
        · subst h1; rw [if_pos rfl, if_pos (by omega)]; simp [hlt2]
        · rw [if_neg h1]
          by_cases h2 : i < k
          · rw [if_pos h2, if_pos (by omega)]
          · rw [if_neg h2, if_neg (by omega)]
      case measure => simp [intOf]; omega
    · have hfin := Lib.hid ((HR.out.congr fun i hi => by rw [if_pos (by omega)]) : wr.rowIs w.heap.size _ zs.length (fun j => .int .i64 (zs.getD j 0)))
      go_wp2
      go_ret
      exact ⟨_, _, rfl, Nat.le_refl _, Own.of_row hfin.out (Nat.le_refl _), HB.out⟩
theorem fit_none (a : Option Addr) (cap : Nat) (w : World) :
    Calls Try.prog 40 #[.slice a 0 cap] w fun e w' => ∃ a cap, e = .returned (.slice a 0 cap) ∧ 0 ≤ cap ∧ Own w.heap.size w' (.slice a 0 cap) [] ∧ Below w.heap.size w w' := by
  have hmk : ∀ w, (Instr.makeSlice 22 (.int .i64 0) (.int .i64 0)).run Try.prog w = .ok (.slice (some ⟨w.heap.size, 0, none⟩) 0 0) (w.alloc (.cells #[] 2)) := fun _ => by kernel_rfl
  go_enter Try.func40, Try.ntmps40
  go_wp2
  refine wp_loop_rounds 1 ?_
  rw [rounds_succ]
  go_wp2
  go_ret
  exact ⟨_, _, rfl, Nat.zero_le _, ⟨_, _, rfl, fun h => by simp at h⟩, (Below.refl _ _).alloc (Nat.le_refl _) _⟩
theorem copyFit (v : Value) (zs : List Int) (w : World) (hn : zs.length ≤ 1048576) (h : Ints w v zs) :
    Calls Try.prog 40 #[v] w fun e w' => ∃ a cap, e = .returned (.slice a zs.length cap) ∧ zs.length ≤ cap ∧ Own w.heap.size w' (.slice a zs.length cap) zs ∧ Below w.heap.size w w' := by
  obtain ⟨a, cap, rfl, hc⟩ := h
  by_cases h0 : 0 < zs.length
  · obtain ⟨b, off, rfl, hlt, hcell⟩ := hc h0
    exact fit_some b off cap zs w hn hlt h0 hcell
  · have : zs = [] := List.eq_nil_of_length_eq_zero (by omega)
    subst this
    exact fit_none a cap w
end Go.Proofs.Ytcdmijldkmmgmab.Ints
namespace Go.Proofs.Ytcdmijldkmmgmab.Terr
open Go.RowKit
open Ints (Ints Own)

set_option maxHeartbeats 1000000 in
theorem toTerrainFit (s x y : Int) (v u : Value) (zs cs : List Int) (w : World) (hn : zs.length ≤ 1048576) (hm : cs.length ≤ 1048576) (h : Ints w v zs) (k : Ints w u cs) :
    Calls Try.prog 13 #[.agg #[.int .i64 s, .int .i64 x, .int .i64 y, v, u]] w fun e w' => ∃ a cap b dap, e = .returned (.agg #[.int .i64 s, .int .i64 x, .int .i64 y, .slice a zs.length cap, .slice b cs.length dap]) ∧ zs.length ≤ cap ∧ Own w.heap.size w' (.slice a zs.length cap) zs ∧ Own w.heap.size w' (.slice b cs.length dap) cs ∧ On w w' := by
  have HI := Lib.hid h
  have HJ := Lib.hid k
  obtain ⟨a, cap, rfl, -⟩ := h
  obtain ⟨b, dap, rfl, -⟩ := k
  have HC := Lib.hid (fun w' (hb : On w w') => Ints.copyFit _ zs w' hn (HI.out.below hb))
  have HD := Lib.hid (fun w' (hb : On w w') => Ints.copyOwn _ cs w' hm (HJ.out.below hb))
  go_enter Try.func13, Try.ntmps13
  go_wp2_with fail
  refine (HC.out _ (by repeat (first | exact On.refl _ | apply On.alloc | refine On.setCell ?_ (by (try simp) <;> omega) _))).mono ?_
  rintro e w1 ⟨a1, cap1, rfl, hfit, hi, hb⟩
  have hb' : On _ w1 := hb
  have HA := Lib.hid (hi.mono (B' := w.heap.size + 3) (by simp))
  clear hi
  obtain ⟨hc, hf⟩ := bcell hb'
  obtain ⟨z0, z1, z2⟩ : w.heap.size < w1.heap.size ∧ w.heap.size + 1 < w1.heap.size ∧ w.heap.size + 2 < w1.heap.size := by have := hb'.size; simp at this; omega
  have hO : On w w1 := by refine On.trans ?_ hb'; repeat (first | exact On.refl _ | apply On.alloc | refine On.setCell ?_ (by (try simp) <;> omega) _)
  go_wp2_with fail
  refine (HD.out _ (by repeat (first | with_reducible exact hO | refine On.setCell ?_ (by (try simp) <;> omega) _))).mono ?_
  rintro e w2 ⟨v2, rfl, hi2, hb2⟩
  have hb2' : On _ w2 := hb2
  have HB := Lib.hid (hi2.mono (B' := w.heap.size + 3) (by simp; omega))
  have HA2 := Lib.hid ((HA.out.setCell (by simp) _).below hb2')
  obtain ⟨b1, dap1, rfl, -⟩ := hi2
  obtain ⟨hc2, hf2⟩ := bcell hb2'
  obtain ⟨y0, y1, y2⟩ : w.heap.size < w2.heap.size ∧ w.heap.size + 1 < w2.heap.size ∧ w.heap.size + 2 < w2.heap.size := by have := hb2'.size; simp at this; omega
  have hO2 : On w w2 := by refine On.trans ?_ hb2'; repeat (first | with_reducible exact hO | refine On.setCell ?_ (by (try simp) <;> omega) _)
  go_wp2_with fail
  refine bodyPost_ret (v := .agg #[.int .i64 s, .int .i64 x, .int .i64 y, .slice a1 zs.length cap1, .slice b1 cs.length dap1]) (by simp [results, Try.results13, go_sem, hc, hc2, z0, z1, z2, y0, y1, y2]) rfl ⟨a1, cap1, b1, dap1, rfl, hfit, ?_, ?_, ?_⟩
  · refine Own.mono (B := w.heap.size + 3) ?_ (by omega)
    repeat (first | with_reducible exact HA2.out | refine Own.setCell ?_ (by simp) _)
  · refine Own.mono (B := w.heap.size + 3) ?_ (by omega)
    repeat (first | with_reducible exact HB.out | refine Own.setCell ?_ (by simp) _)
  · repeat (first | with_reducible exact hO2 | (refine On.setCell ?_ (by (try simp) <;> omega) _))
end Go.Proofs.Ytcdmijldkmmgmab.Terr
