
/-
  The laws' marking of a slice of numbers, and that it changes no block but its own. Condition: at most 1048576 numbers.
-/
import Derived.Test.YtofoffdmhekceaaMark
namespace Go.Proofs.Ytofoffdmhekceaa.Mark
open Go.RowKit
open Ints (Ints Own)

theorem mark_alone (b off cap k : Nat) (zs : List Int) (w : World) (hn : zs.length ≤ 1048576) (hk : k ≤ 1048577)
    (hf : ∀ i, i < zs.length → w.frozen? ⟨b, off + i, none⟩ = false) (hcell : ∀ i, i < zs.length → w.cell? ⟨b, off + i, none⟩ = some (.int .i64 (zs.getD i 0))) :
    Calls Try.prog 25 #[.slice (some ⟨b, off, none⟩) zs.length cap, .int .i64 k] w fun e w' => e = .returned (.int .i64 ((k + zs.length : Nat) : Int)) ∧ Below b w w' ∧ (∀ a, w'.frozen? a = w.frozen? a) ∧ (∀ i, i < zs.length → w'.cell? ⟨b, off + i, none⟩ = some (.int .i64 ((k + i : Nat) : Int))) ∧ ∀ p : Addr, p.block ≠ b → w'.cell? p = w.cell? p := by
  have HF := Lib.hid hf
  have HC := Lib.hid hcell
  clear hf hcell
  go_enter Try.func25, Try.ntmps25
  go_wp2
  go_loopw [1, 5] (fun m i wr => ∃ j : Nat, j ≤ zs.length ∧ i = .int .i64 j ∧ m = .int .i64 ((k + j : Nat) : Int) ∧ Below b w wr ∧ (∀ a, wr.frozen? a = w.frozen? a) ∧ (∀ i, i < zs.length → wr.cell? ⟨b, off + i, none⟩ = some (.int .i64 (if i < j then ((k + i : Nat) : Int) else zs.getD i 0))) ∧ ∀ p : Addr, p.block ≠ b → wr.cell? p = w.cell? p) (fun _ i _ => zs.length - (intOf i).toNat)
  case atStart => exact ⟨0, Nat.zero_le _, rfl, rfl, Below.refl _ _, fun _ => rfl, fun i hi => by rw [if_neg (by omega)]; exact HC.out i hi, fun _ _ => rfl⟩
  case round =>
    obtain ⟨j, hj, rfl, rfl, hb, hfz, hcl, hoth⟩ := hrel
    have HB := Lib.hid hb
    have HZ := Lib.hid hfz
    have HL := Lib.hid hcl
    have HX := Lib.hid hoth
    clear hb hfz hcl hoth
    by_cases hlt2 : j < zs.length
    · obtain ⟨z, hz⟩ : ∃ z, z = zs.getD j 0 := ⟨_, rfl⟩
      have hc1 : wr.cell? ⟨b, off + j, none⟩ = some (.int .i64 z) := by have := HL.out j hlt2; rw [if_neg (by omega)] at this; rw [hz]; exact this
      have hf1 : wr.frozen? ⟨b, off + j, none⟩ = false := (HZ.out _).trans (HF.out j hlt2)
      clear hz
      go_wp2
      go_roundw
      case rel =>
        refine ⟨j + 1, by omega, by go_num, by go_num, HB.out.setCell (by exact Nat.le_refl _) _, fun a => by rw [World.frozen?_setCell]; exact HZ.out a, fun i hi => ?_, fun p hp => (World.cell?_setCell_other (h := fun hc => hp (by rw [← hc])) ..).trans (HX.out p hp)⟩
        by_cases h1 : i = j
        · subst h1
          rw [if_pos (by omega), Int.natCast_add]
          exact World.cell?_setCell_same (h := hc1) ..
        · have hne : (⟨b, off + j, none⟩ : Addr) ≠ ⟨b, off + i, none⟩ := by intro hc; injection hc with _ h2 _; omega
          refine (World.cell?_setCell_other (h := hne) ..).trans ?_
          rw [HL.out i hi]
          by_cases h2 : i < j
          · rw [if_pos h2, if_pos (by omega)]
          · rw [if_neg h2, if_neg (by omega)]
      case measure => simp [intOf]; omega
    · obtain rfl : j = zs.length := by omega
      go_wp2
      go_ret
      exact ⟨rfl, HB.out, HZ.out, fun i hi => by have := HL.out i hi; rw [if_pos hi] at this; exact this, HX.out⟩
/-- The marking of a slice: no block but its own changes, and nothing is frozen by it. -/
theorem markOnly (B k : Nat) (a : Option Addr) (cap : Nat) (zs : List Int) (w : World) (hn : zs.length ≤ 1048576) (hk : k ≤ 1048577) (h : Own B w (.slice a zs.length cap) zs) :
    Calls Try.prog 25 #[.slice a zs.length cap, .int .i64 k] w fun e w' => e = .returned (.int .i64 ((k + zs.length : Nat) : Int)) ∧ Below B w w' ∧ Own B w' (.slice a zs.length cap) (marks k zs.length) ∧ (∀ p, w'.frozen? p = w.frozen? p) ∧ ∀ p : Addr, (0 < zs.length → ∀ q, a = some q → p.block ≠ q.block) → w'.cell? p = w.cell? p := by
  obtain ⟨a', cap', hv, hc⟩ := h
  cases hv
  by_cases h0 : 0 < zs.length
  · obtain ⟨b, off, rfl, hB, hlt, hf, hcell⟩ := hc h0
    refine (mark_alone b off cap k zs w hn hk hf hcell).mono fun e w' ⟨he, hb, hfz, hcl, hx⟩ => ⟨he, hb.mono hB, ⟨_, cap, by rw [marks_length], fun _ => ⟨b, off, rfl, hB, Nat.lt_of_lt_of_le hlt hb.size, fun i hi => ?_, fun i hi => ?_⟩⟩, hfz, fun p hp => hx p (hp h0 _ rfl)⟩
    · rw [marks_length] at hi; exact (hfz _).trans (hf i hi)
    · rw [marks_length] at hi; rw [marks_get _ _ _ hi]; exact hcl i hi
  · have : zs = [] := List.eq_nil_of_length_eq_zero (by omega)
    subst this
    exact (mark_none a cap k w).mono fun e w' ⟨he, hw⟩ => ⟨he, hw ▸ Below.refl _ _, hw ▸ Own.empty B w a cap, fun _ => by rw [hw], fun _ _ => by rw [hw]⟩
end Go.Proofs.Ytofoffdmhekceaa.Mark
