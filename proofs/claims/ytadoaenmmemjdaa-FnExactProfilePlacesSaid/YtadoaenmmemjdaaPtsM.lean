
/-
  Slices of Point that a call has made: what the laws' marking of them and the later look at the marks return. Condition: at most 1048576 of them.
-/
import Derived.Test.YtadoaenmmemjdaaPts
namespace Go.Proofs.Ytadoaenmmemjdaa.PtsM
open Go.RowKit
open Pts (OwnP Pairs flat flat_even flat_odd)

/-- The marks k, k + 1, .., two in each. -/
def marksP (k n : Nat) : List (Int × Int) := (List.range n).map fun i => (((k + i * 2 : Nat) : Int), ((k + i * 2 + 1 : Nat) : Int))
theorem marksP_length (k n : Nat) : (marksP k n).length = n := by simp [marksP]
theorem marksP_flat (k : Nat) {n j : Nat} (h : j < n * 2) : flat (marksP k n) j = ((k + j : Nat) : Int) := by
  have h2 : j / 2 < n := by omega
  have e : (marksP k n).getD (j / 2) (0, 0) = (((k + j / 2 * 2 : Nat) : Int), ((k + j / 2 * 2 + 1 : Nat) : Int)) := by simp [marksP, h2]
  unfold flat
  rw [e]
  by_cases hm : j % 2 = 0
  · rw [if_pos hm]; show ((_ : Nat) : Int) = _; congr 1; omega
  · rw [if_neg hm]; show ((_ : Nat) : Int) = _; congr 1; omega

set_option maxHeartbeats 2000000 in
theorem mark_some (b off cap k : Nat) (zs : List (Int × Int)) (w : World) (hn : zs.length ≤ 1048576) (hk : k ≤ 1048577)
    (hf : ∀ i, i < zs.length * 2 → w.frozen? ⟨b, off + i, none⟩ = false) (hcell : ∀ i, i < zs.length * 2 → w.cell? ⟨b, off + i, none⟩ = some (.int .i64 (flat zs i))) :
    Calls Try.prog 10 #[.slice (some ⟨b, off, none⟩) zs.length cap, .int .i64 k] w fun e w' => e = .returned (.int .i64 ((k + zs.length * 2 : Nat) : Int)) ∧ Below b w w' ∧ (∀ a, w'.frozen? a = w.frozen? a) ∧ ∀ i, i < zs.length * 2 → w'.cell? ⟨b, off + i, none⟩ = some (.int .i64 ((k + i : Nat) : Int)) := by
  have HF := Lib.hid hf
  have HC := Lib.hid hcell
  clear hf hcell
  go_enter Try.func10, Try.ntmps10
  go_wp2
  go_loopw [1, 5] (fun m i wr => ∃ j : Nat, j ≤ zs.length ∧ i = .int .i64 j ∧ m = .int .i64 ((k + j * 2 : Nat) : Int) ∧ Below b w wr ∧ (∀ a, wr.frozen? a = w.frozen? a) ∧ ∀ i, i < zs.length * 2 → wr.cell? ⟨b, off + i, none⟩ = some (.int .i64 (if i < j * 2 then ((k + i : Nat) : Int) else flat zs i))) (fun _ i _ => zs.length - (intOf i).toNat)
  case atStart => exact ⟨0, Nat.zero_le _, rfl, rfl, Below.refl _ _, fun _ => rfl, fun i hi => by rw [if_neg (by omega)]; exact HC.out i hi⟩
  case round =>
    obtain ⟨j, hj, rfl, rfl, hb, hfz, hcl⟩ := hrel
    have HB := Lib.hid hb
    have HZ := Lib.hid hfz
    have HL := Lib.hid hcl
    clear hb hfz hcl
    by_cases hlt2 : j < zs.length
    · have hlti : (j : Int) < (zs.length : Int) := by omega
      obtain ⟨z, hz⟩ : ∃ z, z = flat zs (j * 2) := ⟨_, rfl⟩
      obtain ⟨y, hy⟩ : ∃ y, y = flat zs (j * 2 + 1) := ⟨_, rfl⟩
      have hc1 : wr.cell? ⟨b, off + j * 2, none⟩ = some (.int .i64 z) := by have := HL.out (j * 2) (by omega); rw [if_neg (by omega)] at this; rw [hz]; exact this
      have hc2 : wr.cell? ⟨b, off + j * 2 + 1, none⟩ = some (.int .i64 y) := by have := HL.out (j * 2 + 1) (by omega); rw [if_neg (by omega)] at this; rw [hy]; exact this
      have hf1 : wr.frozen? ⟨b, off + j * 2, none⟩ = false := (HZ.out _).trans (HF.out (j * 2) (by omega))
      have hf2 : wr.frozen? ⟨b, off + j * 2 + 1, none⟩ = false := (HZ.out _).trans (HF.out (j * 2 + 1) (by omega))
      clear hz hy
      go_wp2
      go_roundw
      case rel =>
        refine ⟨j + 1, by omega, by go_num, by go_num, (HB.out.setCell (by exact Nat.le_refl _) _).setCell (by exact Nat.le_refl _) _, fun a => by rw [World.frozen?_setCell, World.frozen?_setCell]; exact HZ.out a, fun i hi => ?_⟩
        by_cases h1 : i = j * 2 + 1
        · subst h1
          rw [if_pos (by omega)]
          have hne : (⟨b, off + j * 2, none⟩ : Addr) ≠ ⟨b, off + j * 2 + 1, none⟩ := by intro hc; injection hc with _ h2 _; omega
          refine (World.cell?_setCell_same (h := (World.cell?_setCell_other (h := hne) ..).trans hc2) ..).trans ?_
          congr 2
        · have hne2 : (⟨b, off + j * 2 + 1, none⟩ : Addr) ≠ ⟨b, off + i, none⟩ := by intro hc; injection hc with _ h2 _; omega
          refine (World.cell?_setCell_other (h := hne2) ..).trans ?_
          by_cases h2 : i = j * 2
          · subst h2
            rw [if_pos (by omega)]
            refine (World.cell?_setCell_same (h := hc1) ..).trans ?_
            congr 2
          · have hne : (⟨b, off + j * 2, none⟩ : Addr) ≠ ⟨b, off + i, none⟩ := by intro hc; injection hc with _ h2 _; omega
            refine (World.cell?_setCell_other (h := hne) ..).trans ?_
            rw [HL.out i hi]
            by_cases h3 : i < j * 2
            · rw [if_pos h3, if_pos (by omega)]
            · rw [if_neg h3, if_neg (by omega)]
      case measure => simp [intOf]; omega
    · obtain rfl : j = zs.length := by omega
      go_wp2
      go_ret
      exact ⟨rfl, HB.out, HZ.out, fun i hi => by have := HL.out i hi; rw [if_pos hi] at this; exact this⟩
theorem mark_none (a : Option Addr) (cap k : Nat) (w : World) :
    Calls Try.prog 10 #[.slice a 0 cap, .int .i64 k] w fun e w' => e = .returned (.int .i64 k) ∧ w' = w := by
  go_enter Try.func10, Try.ntmps10
  go_wp2
  refine wp_loop_rounds 1 ?_
  rw [rounds_succ]
  go_wp2
  go_ret
  exact ⟨rfl, rfl⟩
/-- The marking: it returns the next mark, writes into its own memory alone, and leaves the marks there. -/
theorem mark (B k : Nat) (v : Value) (zs : List (Int × Int)) (w : World) (hn : zs.length ≤ 1048576) (hk : k ≤ 1048577) (h : OwnP B w v zs) :
    Calls Try.prog 10 #[v, .int .i64 k] w fun e w' => e = .returned (.int .i64 ((k + zs.length * 2 : Nat) : Int)) ∧ Below B w w' ∧ OwnP B w' v (marksP k zs.length) := by
  obtain ⟨a, cap, rfl, hc⟩ := h
  by_cases h0 : 0 < zs.length
  · obtain ⟨b, off, rfl, hB, hlt, hf, hcell⟩ := hc h0
    refine (mark_some b off cap k zs w hn hk hf hcell).mono fun e w' ⟨he, hb, hfz, hcl⟩ => ⟨he, hb.mono hB, _, cap, by rw [marksP_length], fun _ => ⟨b, off, rfl, hB, Nat.lt_of_lt_of_le hlt hb.size, fun i hi => ?_, fun i hi => ?_⟩⟩
    · rw [marksP_length] at hi; exact (hfz _).trans (hf i hi)
    · rw [marksP_length] at hi; rw [marksP_flat _ hi]; exact hcl i hi
  · have : zs = [] := List.eq_nil_of_length_eq_zero (by omega)
    subst this
    exact (mark_none a cap k w).mono fun e w' ⟨he, hw⟩ => ⟨he, hw ▸ Below.refl _ _, hw ▸ OwnP.empty B w a cap⟩

set_option maxHeartbeats 2000000 in
theorem held_some (b off cap k n : Nat) (w : World) (hn : n ≤ 1048576) (hk : k ≤ 1048577) (hcell : ∀ i, i < n * 2 → w.cell? ⟨b, off + i, none⟩ = some (.int .i64 ((k + i : Nat) : Int))) :
    Calls Try.prog 11 #[.slice (some ⟨b, off, none⟩) n cap, .int .i64 k] w fun e w' => e = .returned (.int .i64 ((k + n * 2 : Nat) : Int)) ∧ w' = w := by
  have HC := Lib.hid hcell
  clear hcell
  go_enter Try.func11, Try.ntmps11
  go_wp2
  go_loop [1, 5] (fun m i => ∃ j : Nat, j ≤ n ∧ i = .int .i64 j ∧ m = .int .i64 ((k + j * 2 : Nat) : Int)) (fun _ i => n - (intOf i).toNat)
  case atStart => exact ⟨0, Nat.zero_le _, rfl, rfl⟩
  case round =>
    obtain ⟨j, hj, rfl, rfl⟩ := hrel
    by_cases hlt2 : j < n
    · have hlti : (j : Int) < (n : Int) := by omega
      have hc1 : w.cell? ⟨b, off + j * 2, none⟩ = some (.int .i64 ((k + j * 2 : Nat) : Int)) := HC.out (j * 2) (by omega)
      have hc2 : w.cell? ⟨b, off + j * 2 + 1, none⟩ = some (.int .i64 (((k + j * 2 : Nat) : Int) + 1)) := HC.out (j * 2 + 1) (by omega)
      have hw1 : IntKind.i64.wrap (((k + j * 2 : Nat) : Int) + 1) = ((k + j * 2 : Nat) : Int) + 1 := IntWalk.i64_in _ (by omega)
      have hw2 : IntKind.i64.wrap (((k + j * 2 : Nat) : Int) + 1 + 1) = ((k + (j + 1) * 2 : Nat) : Int) := by rw [IntWalk.i64_in _ (by omega)]; omega
      obtain ⟨m, hm⟩ : ∃ m : Int, m = ((k + j * 2 : Nat) : Int) := ⟨_, rfl⟩
      rw [← hm] at hc1 hc2 hw1 hw2 ⊢
      go_wp2
      go_round
      case rel => exact ⟨j + 1, by omega, by go_num, by first | rfl | (simp; omega)⟩
      case measure => simp [intOf]; omega
    · obtain rfl : j = n := by omega
      go_wp2
      go_ret
      exact ⟨rfl, rfl⟩
theorem held_none (a : Option Addr) (cap k : Nat) (w : World) :
    Calls Try.prog 11 #[.slice a 0 cap, .int .i64 k] w fun e w' => e = .returned (.int .i64 k) ∧ w' = w := by
  go_enter Try.func11, Try.ntmps11
  go_wp2
  refine wp_loop_rounds 1 ?_
  rw [rounds_succ]
  go_wp2
  go_ret
  exact ⟨rfl, rfl⟩
/-- The look at the marks: they are there, and it returns the next one. -/
theorem held (B k n : Nat) (v : Value) (w : World) (hn : n ≤ 1048576) (hk : k ≤ 1048577) (h : OwnP B w v (marksP k n)) :
    Calls Try.prog 11 #[v, .int .i64 k] w fun e w' => e = .returned (.int .i64 ((k + n * 2 : Nat) : Int)) ∧ w' = w := by
  obtain ⟨a, cap, rfl, hc⟩ := h
  rw [marksP_length] at *
  by_cases h0 : 0 < n
  · obtain ⟨b, off, rfl, hB, hlt, hf, hcell⟩ := hc h0
    exact held_some b off cap k n w hn hk (fun i hi => by have := hcell i hi; rw [marksP_flat _ hi] at this; exact this)
  · obtain rfl : n = 0 := by omega
    exact held_none a cap k w
end Go.Proofs.Ytadoaenmmemjdaa.PtsM
