
/-
  When a mask is valid, in the model and in the program. Condition: at most 1048576 numbers in each list.
-/
import Derived.Test.YtkcjbcllpbojhaaDoorMskPlain
import Derived.Test.YtkcjbcllpbojhaaDoorMsk0
import Derived.Test.YtkcjbcllpbojhaaDoorArith
import Derived.Test.YtkcjbcllpbojhaaDoorOnH
namespace Go.Proofs.YtkcjbcllpbojhaaDoor.Msk
open Go.RowKit
open Plain
open Ints (Ints Own)

theorem slice_of {w : World} {a : Option Addr} {n cap : Nat} {zs : List Int} (h : Ints w (.slice a n cap) zs) (hl : zs.length = n) (h0 : 0 < n) : ∃ b off, a = some ⟨b, off, none⟩ ∧ b < w.heap.size ∧ ∀ i, i < n → w.cell? ⟨b, off + i, none⟩ = some (.int .i64 (zs.getD i 0)) := by
  obtain ⟨a', cap', he, hc⟩ := h
  injection he with h1 h2 h3
  subst h1
  subst hl
  exact hc h0
set_option maxHeartbeats 2000000 in
theorem impl_climbs (v : Value) (zs : List Int) (s lim : Int) (w : World) (hz : zs.length ≤ 1048576) (hs : 0 ≤ s) (hs2 : s ≤ 1) (hlim : lim ≤ 1000000) (h : Ints w v zs) :
    Calls Tryd.prog 56 #[v, .int .i64 s, .int .i64 lim] w fun e w' => e = .returned (.bool (climb s lim zs)) ∧ w = w' := by
  have h' := h
  obtain ⟨a, cap, rfl, -⟩ := h
  obtain ⟨n, hn⟩ : ∃ n, n = zs.length := ⟨_, rfl⟩
  have HN := Lib.hid hn
  have HC := Lib.hid (fun h0 => slice_of (n := n) (by rw [hn]; exact h') hn.symm h0)
  rw [← hn] at hz ⊢
  clear h' hn
  go_enter Tryd.func56, Tryd.ntmps56
  go_wp2_with fail
  go_loop [11] (fun i => ∃ k : Nat, k ≤ n ∧ i = .int .i64 k ∧ AllN (stepAt s lim zs) k) (fun i => n - (intOf i).toNat)
  case atStart => exact ⟨0, Nat.zero_le _, rfl, allN_zero _⟩
  case round =>
    obtain ⟨k, hk, rfl, hall⟩ := hrel
    have HA := Lib.hid hall
    clear hall
    by_cases hlt : k < n
    · have hlti : (k : Int) < (n : Int) := by omega
      obtain ⟨b, off, rfl, hb, hcell⟩ := HC.out (by omega)
      obtain ⟨z, hz1⟩ : ∃ z, z = zs.getD k 0 := ⟨_, rfl⟩
      have c1 : w.cell? ⟨b, off + k, none⟩ = some (.int .i64 z) := by rw [hz1]; exact hcell k hlt
      by_cases hin : lim < z
      · have en := Lib.hid (show climb s lim zs = false from allN_bad (k := k) (by rw [← HN.out]; exact hlt) (step_hi (by rw [← hz1]; omega)))
        clear hz1 hcell
        go_wp2_with fail
        go_ret
        exact ⟨ret_bool en.out.symm, rfl⟩
      · cases k with
        | zero =>
          have c0 : w.cell? ⟨b, off, none⟩ = some (.int .i64 z) := c1
          have hn0 : (0 : Int) < (n : Int) := by omega
          by_cases hr : z = 0
          · have HS := Lib.hid (allN_succ HA.out (step_yes0 (s := s) (lim := lim) (zs := zs) (by rw [← hz1]; omega) (by rw [← hz1]; exact hr)))
            clear hz1 hcell
            subst hr
            go_wp2_with fail
            go_round
            case rel => exact ⟨1, by omega, by go_num, HS.out⟩
            case measure => simp [intOf]; omega
          · have en := Lib.hid (show climb s lim zs = false from allN_bad (k := 0) (by rw [← HN.out]; exact hlt) (step_0 (by rw [← hz1]; exact hr)))
            have b2 : (z == 0) = false := beq_eq_false_iff_ne.2 hr
            have b3 : (z != 0) = true := by rw [bne, b2]; rfl
            clear hz1 hcell hr
            go_wp2_with fail
            go_ret
            exact ⟨ret_bool en.out.symm, rfl⟩
        | succ m =>
          obtain ⟨y, hy⟩ : ∃ y, y = zs.getD m 0 := ⟨_, rfl⟩
          have c2 : w.cell? ⟨b, off + m, none⟩ = some (.int .i64 y) := by rw [hy]; exact hcell m (by omega)
          have k0 : (0 : Int) < ((m + 1 : Nat) : Int) := by omega
          have k1 : (((m + 1 : Nat) : Int) == 0) = false := beq_eq_false_iff_ne.2 (by omega)
          have y0 : -1000000 ≤ y ∧ y ≤ lim := by
            have h1 : ∀ j, j ≤ m → 0 ≤ zs.getD j 0 := fun j => by
              induction j with
              | zero => intro _; have := (of_step (HA.out 0 (by omega))).2.1 rfl; omega
              | succ j ih => intro hj; have := (of_step (HA.out (j + 1) (by omega))).2.2 (by omega); rw [show j + 1 - 1 = j by omega] at this; have := ih (by omega); omega
            have := h1 m (Nat.le_refl _)
            have := (of_step (HA.out m (by omega))).1
            omega
          obtain ⟨y0, y1⟩ := y0
          by_cases hr : z < y + s
          · have en := Lib.hid (show climb s lim zs = false from allN_bad (k := m + 1) (by rw [← HN.out]; exact hlt) (step_s (by rw [← hz1, ← hy]; omega)))
            clear hz1 hcell hy
            go_wp2_with fail
            go_ret
            exact ⟨ret_bool en.out.symm, rfl⟩
          · have HS := Lib.hid (allN_succ HA.out (step_yes (s := s) (lim := lim) (zs := zs) (k := m) (by rw [← hz1]; omega) (by rw [← hz1, ← hy]; omega)))
            clear hz1 hcell hy
            go_wp2_with fail
            go_round
            case rel => exact ⟨m + 1 + 1, by omega, by go_num, HS.out⟩
            case measure => simp [intOf]; omega
    · obtain rfl : k = n := by omega
      have en := Lib.hid (show climb s lim zs = true from allN_all (by rw [← HN.out]; exact HA.out))
      go_wp2
      go_ret
      exact ⟨ret_bool en.out.symm, rfl⟩
end Go.Proofs.YtkcjbcllpbojhaaDoor.Msk
