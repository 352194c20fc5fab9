
/-
  Slices of numbers copied, with the room that the copies have. Condition: at most 1048576 numbers.
-/
import Derived.Test.YtnambnddoebeiaaInts
namespace Go.Proofs.Ytnambnddoebeiaa.Ints
open Go.RowKit

theorem infoF : (Try.prog.info? 2).map (fun i => (i.zero, i.size, i.bytes)) = some (some (.int .i64 0), 1, 8) := by kernel_rfl
theorem fit_some (b off cap : Nat) (zs : List Int) (w : World) (hn : zs.length ≤ 1048576) (hlt : b < w.heap.size) (h0 : 0 < zs.length)
    (hcell : ∀ i, i < zs.length → w.cell? ⟨b, off + i, none⟩ = some (.int .i64 (zs.getD i 0))) :
    Calls Try.prog 29 #[.slice (some ⟨b, off, none⟩) zs.length cap] w fun e w' => ∃ a cap, e = .returned (.slice a zs.length cap) ∧ zs.length ≤ cap ∧ Own w.heap.size w' (.slice a zs.length cap) zs ∧ Below w.heap.size w w' := by
  have hmk := fun w => run_make_row' (P := Try.prog) 22 2 (.int .i64 0) 8 Try.underlying22 infoF rfl .i64 .i64 zs.length (by omega) (by omega) w
  have HC := Lib.hid hcell
  clear hcell
  go_enter Try.func29, Try.ntmps29
  go_wp2
  clear hmk
  go_loopw [4] (fun i wr => ∃ k : Nat, k ≤ zs.length ∧ i = .int .i64 k ∧ wr.rowIs w.heap.size 2 zs.length (fun j => if j < k then .int .i64 (zs.getD j 0) else .int .i64 0) ∧ Below w.heap.size w wr) (fun i _ => zs.length - (intOf i).toNat)
  case atStart =>
    refine ⟨0, Nat.zero_le _, rfl, ?_, (Below.refl _ _).alloc (Nat.le_refl _) _⟩
    exact (World.rowIs_made w (.int .i64 0) zs.length _).congr fun i _ => by simp
  case round =>
    obtain ⟨k, hk, rfl, hrow, hb⟩ := hrel
    have HR := Lib.hid hrow
    have HB := Lib.hid hb
    clear hrow hb
    by_cases hlt2 : k < zs.length
    · have hc1 : wr.cell? ⟨b, off + k, none⟩ = some (.int .i64 (zs.getD k 0)) := (HB.out.cell (by exact hlt)).trans (HC.out k hlt2)
      have hc2 : wr.cell? ⟨w.heap.size, k, none⟩ = some (.int .i64 0) := by have := HR.out.cell hlt2; rw [if_neg (by omega)] at this; exact this
      have hf2 : wr.frozen? ⟨w.heap.size, k, none⟩ = false := HR.out.frozen k
      go_wp2
      go_roundw
      case rel =>
        refine ⟨k + 1, by omega, by go_num, (HR.out.set k _).congr fun i _ => ?_, HB.out.setCell (by exact Nat.le_refl _) _⟩
        by_cases h1 : i = k
        · subst h1; rw [if_pos rfl, if_pos (by omega)]; simp [hlt2]
        · rw [if_neg h1]
          by_cases h2 : i < k
          · rw [if_pos h2, if_pos (by omega)]
          · rw [if_neg h2, if_neg (by omega)]
      case measure => simp [intOf]; omega
    · have hfin := Lib.hid ((HR.out.congr fun i hi => by rw [if_pos (by omega)]) : wr.rowIs w.heap.size _ zs.length (fun j => .int .i64 (zs.getD j 0)))
      go_wp2
      go_ret
      exact ⟨_, _, rfl, Nat.le_refl _, Own.of_row hfin.out (Nat.le_refl _), HB.out⟩
theorem fit_none (a : Option Addr) (cap : Nat) (w : World) :
    Calls Try.prog 29 #[.slice a 0 cap] w fun e w' => ∃ a cap, e = .returned (.slice a 0 cap) ∧ 0 ≤ cap ∧ Own w.heap.size w' (.slice a 0 cap) [] ∧ Below w.heap.size w w' := by
  have hmk : ∀ w, (Instr.makeSlice 22 (.int .i64 0) (.int .i64 0)).run Try.prog w = .ok (.slice (some ⟨w.heap.size, 0, none⟩) 0 0) (w.alloc (.cells #[] 2)) := fun _ => by kernel_rfl
  go_enter Try.func29, Try.ntmps29
  go_wp2
  refine wp_loop_rounds 1 ?_
  rw [rounds_succ]
  go_wp2
  go_ret
  exact ⟨_, _, rfl, Nat.zero_le _, ⟨_, _, rfl, fun h => by simp at h⟩, (Below.refl _ _).alloc (Nat.le_refl _) _⟩
theorem copyFit (v : Value) (zs : List Int) (w : World) (hn : zs.length ≤ 1048576) (h : Ints w v zs) :
    Calls Try.prog 29 #[v] w fun e w' => ∃ a cap, e = .returned (.slice a zs.length cap) ∧ zs.length ≤ cap ∧ Own w.heap.size w' (.slice a zs.length cap) zs ∧ Below w.heap.size w w' := by
  obtain ⟨a, cap, rfl, hc⟩ := h
  by_cases h0 : 0 < zs.length
  · obtain ⟨b, off, rfl, hlt, hcell⟩ := hc h0
    exact fit_some b off cap zs w hn hlt h0 hcell
  · have : zs = [] := List.eq_nil_of_length_eq_zero (by omega)
    subst this
    exact fit_none a cap w
end Go.Proofs.Ytnambnddoebeiaa.Ints
