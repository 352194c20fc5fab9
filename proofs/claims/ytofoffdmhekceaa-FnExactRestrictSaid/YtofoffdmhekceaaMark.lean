
/-
  Slices of 64-bit numbers that a call has made: what the laws' marking of them and the later look at the marks return. Condition: at most 1048576 numbers.
-/
import Derived.Test.YtofoffdmhekceaaInts
namespace Go.Proofs.Ytofoffdmhekceaa.Mark
open Go.RowKit
open Ints (Ints Own)

/-- The marks k, k + 1, .. -/
def marks (k n : Nat) : List Int := (List.range n).map fun i => ((k + i : Nat) : Int)
theorem marks_length (k n : Nat) : (marks k n).length = n := by simp [marks]
theorem marks_get (k n i : Nat) (h : i < n) : (marks k n).getD i 0 = ((k + i : Nat) : Int) := by simp [marks, h]

theorem mark_some (b off cap k : Nat) (zs : List Int) (w : World) (hn : zs.length ≤ 1048576) (hk : k ≤ 1048577)
    (hf : ∀ i, i < zs.length → w.frozen? ⟨b, off + i, none⟩ = false) (hcell : ∀ i, i < zs.length → w.cell? ⟨b, off + i, none⟩ = some (.int .i64 (zs.getD i 0))) :
    Calls Try.prog 25 #[.slice (some ⟨b, off, none⟩) zs.length cap, .int .i64 k] w fun e w' => e = .returned (.int .i64 ((k + zs.length : Nat) : Int)) ∧ Below b w w' ∧ (∀ a, w'.frozen? a = w.frozen? a) ∧ ∀ i, i < zs.length → w'.cell? ⟨b, off + i, none⟩ = some (.int .i64 ((k + i : Nat) : Int)) := by
  have HF := Lib.hid hf
  have HC := Lib.hid hcell
  clear hf hcell
  go_enter Try.func25, Try.ntmps25
  go_wp2
  go_loopw [1, 5] (fun m i wr => ∃ j : Nat, j ≤ zs.length ∧ i = .int .i64 j ∧ m = .int .i64 ((k + j : Nat) : Int) ∧ Below b w wr ∧ (∀ a, wr.frozen? a = w.frozen? a) ∧ ∀ i, i < zs.length → wr.cell? ⟨b, off + i, none⟩ = some (.int .i64 (if i < j then ((k + i : Nat) : Int) else zs.getD i 0))) (fun _ i _ => zs.length - (intOf i).toNat)
  case atStart => exact ⟨0, Nat.zero_le _, rfl, rfl, Below.refl _ _, fun _ => rfl, fun i hi => by rw [if_neg (by omega)]; exact HC.out i hi⟩
  case round =>
    obtain ⟨j, hj, rfl, rfl, hb, hfz, hcl⟩ := hrel
    have HB := Lib.hid hb
    have HZ := Lib.hid hfz
    have HL := Lib.hid hcl
    clear hb hfz hcl
    by_cases hlt2 : j < zs.length
    · obtain ⟨z, hz⟩ : ∃ z, z = zs.getD j 0 := ⟨_, rfl⟩
      have hc1 : wr.cell? ⟨b, off + j, none⟩ = some (.int .i64 z) := by have := HL.out j hlt2; rw [if_neg (by omega)] at this; rw [hz]; exact this
      have hf1 : wr.frozen? ⟨b, off + j, none⟩ = false := (HZ.out _).trans (HF.out j hlt2)
      clear hz
      go_wp2
      go_roundw
      case rel =>
        refine ⟨j + 1, by omega, by go_num, by go_num, HB.out.setCell (by exact Nat.le_refl _) _, fun a => by rw [World.frozen?_setCell]; exact HZ.out a, fun i hi => ?_⟩
        by_cases h1 : i = j
        · subst h1
          rw [if_pos (by omega), Int.natCast_add]
          exact World.cell?_setCell_same (h := hc1) ..
        · have hne : (⟨b, off + j, none⟩ : Addr) ≠ ⟨b, off + i, none⟩ := by intro hc; injection hc with _ h2 _; omega
          refine (World.cell?_setCell_other (h := hne) ..).trans ?_
          rw [HL.out i hi]
          by_cases h2 : i < j
          · rw [if_pos h2, if_pos (by omega)]
          · rw [if_neg h2, if_neg (by omega)]
      case measure => simp [intOf]; omega
    · obtain rfl : j = zs.length := by omega
      go_wp2
      go_ret
      exact ⟨rfl, HB.out, HZ.out, fun i hi => by have := HL.out i hi; rw [if_pos hi] at this; exact this⟩
theorem mark_none (a : Option Addr) (cap k : Nat) (w : World) :
    Calls Try.prog 25 #[.slice a 0 cap, .int .i64 k] w fun e w' => e = .returned (.int .i64 k) ∧ w' = w := by
  go_enter Try.func25, Try.ntmps25
  go_wp2
  refine wp_loop_rounds 1 ?_
  rw [rounds_succ]
  go_wp2
  go_ret
  exact ⟨rfl, rfl⟩
/-- The marking: it returns the next mark, writes into its own memory alone, and leaves the marks there. -/
theorem mark (B k : Nat) (v : Value) (zs : List Int) (w : World) (hn : zs.length ≤ 1048576) (hk : k ≤ 1048577) (h : Own B w v zs) :
    Calls Try.prog 25 #[v, .int .i64 k] w fun e w' => e = .returned (.int .i64 ((k + zs.length : Nat) : Int)) ∧ Below B w w' ∧ Own B w' v (marks k zs.length) := by
  obtain ⟨a, cap, rfl, hc⟩ := h
  by_cases h0 : 0 < zs.length
  · obtain ⟨b, off, rfl, hB, hlt, hf, hcell⟩ := hc h0
    refine (mark_some b off cap k zs w hn hk hf hcell).mono fun e w' ⟨he, hb, hfz, hcl⟩ => ⟨he, hb.mono hB, _, cap, by rw [marks_length], fun _ => ⟨b, off, rfl, hB, Nat.lt_of_lt_of_le hlt hb.size, fun i hi => ?_, fun i hi => ?_⟩⟩
    · rw [marks_length] at hi; exact (hfz _).trans (hf i hi)
    · rw [marks_length] at hi; rw [marks_get _ _ _ hi]; exact hcl i hi
  · have : zs = [] := List.eq_nil_of_length_eq_zero (by omega)
    subst this
    exact (mark_none a cap k w).mono fun e w' ⟨he, hw⟩ => ⟨he, hw ▸ Below.refl _ _, hw ▸ Own.empty B w a cap⟩

theorem held_some (b off cap k n : Nat) (w : World) (hn : n ≤ 1048576) (hk : k ≤ 1048577) (hcell : ∀ i, i < n → w.cell? ⟨b, off + i, none⟩ = some (.int .i64 ((k + i : Nat) : Int))) :
    Calls Try.prog 49 #[.slice (some ⟨b, off, none⟩) n cap, .int .i64 k] w fun e w' => e = .returned (.int .i64 ((k + n : Nat) : Int)) ∧ w' = w := by
  have HC := Lib.hid hcell
  clear hcell
  go_enter Try.func49, Try.ntmps49
  go_wp2
  go_loop [1, 5] (fun m i => ∃ j : Nat, j ≤ n ∧ i = .int .i64 j ∧ m = .int .i64 ((k + j : Nat) : Int)) (fun _ i => n - (intOf i).toNat)
  case atStart => exact ⟨0, Nat.zero_le _, rfl, rfl⟩
  case round =>
    obtain ⟨j, hj, rfl, rfl⟩ := hrel
    by_cases hlt2 : j < n
    · have hc1 : w.cell? ⟨b, off + j, none⟩ = some (.int .i64 ((k + j : Nat) : Int)) := HC.out j hlt2
      go_wp2
      go_round
      case rel => exact ⟨j + 1, by omega, by go_num, by go_num⟩
      case measure => simp [intOf]; omega
    · obtain rfl : j = n := by omega
      go_wp2
      go_ret
      exact ⟨rfl, rfl⟩
theorem held_none (a : Option Addr) (cap k : Nat) (w : World) :
    Calls Try.prog 49 #[.slice a 0 cap, .int .i64 k] w fun e w' => e = .returned (.int .i64 k) ∧ w' = w := by
  go_enter Try.func49, Try.ntmps49
  go_wp2
  refine wp_loop_rounds 1 ?_
  rw [rounds_succ]
  go_wp2
  go_ret
  exact ⟨rfl, rfl⟩
/-- The look at the marks: they are there, and it returns the next one. -/
theorem held (B k n : Nat) (v : Value) (w : World) (hn : n ≤ 1048576) (hk : k ≤ 1048577) (h : Own B w v (marks k n)) :
    Calls Try.prog 49 #[v, .int .i64 k] w fun e w' => e = .returned (.int .i64 ((k + n : Nat) : Int)) ∧ w' = w := by
  obtain ⟨a, cap, rfl, hc⟩ := h
  rw [marks_length] at *
  by_cases h0 : 0 < n
  · obtain ⟨b, off, rfl, hB, hlt, hf, hcell⟩ := hc h0
    exact held_some b off cap k n w hn hk (fun i hi => by have := hcell i hi; rw [marks_get _ _ _ hi] at this; exact this)
  · obtain rfl : n = 0 := by omega
    exact held_none a cap k w
end Go.Proofs.Ytofoffdmhekceaa.Mark
