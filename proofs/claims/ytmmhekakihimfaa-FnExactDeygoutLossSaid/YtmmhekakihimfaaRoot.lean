
/-
  What the square roots of the model and of the program return, for every number: the root, rounded down; 0 for negative ones. No condition.
-/
import Derived.Test.YtmmhekakihimfaaProg
import Derived.Test.YtmmhekakihimfaaPlain
import Derived.Test.YtmmhekakihimfaaShelf
import Derived.WalkKit
import Derived.Lib.Hide
import Derived.Laws.Bits64b
import Derived.IntWalk
namespace Go.Proofs.Ytmmhekakihimfaa.Root
open Go.RowKit
open Plain

theorem spec_root (n : Int) (w : World) (h2 : n ≤ 9223372036854775807) :
    Calls Try.prog 73 #[.int .i64 n] w fun e w' => e = .returned (.int .i64 (rootOf n)) ∧ w = w' := by
  go_enter Try.func73, Try.ntmps73
  go_wp2
  go_loop [3, 4] (fun l h => ∃ low high : Int, l = .int .i64 low ∧ h = .int .i64 high ∧ Search n low high) (fun l h => (intOf h - intOf l).toNat)
  case atStart => exact ⟨0, 3037000499, rfl, rfl, search_start n h2⟩
  case round =>
    obtain ⟨low, high, rfl, rfl, hs⟩ := hrel
    have b1 : 0 ≤ low := hs.1
    have b2 : low ≤ high := hs.2.1
    have b3 : high ≤ 3037000499 := hs.2.2.1
    by_cases hlt : low < high
    · have m1 : low < (low + high + 1) / 2 := by omega
      have m2 : (low + high + 1) / 2 ≤ high := by omega
      have m3 := sq_bd (m := (low + high + 1) / 2) (by omega) (by omega)
      obtain ⟨m3, m4⟩ := m3
      by_cases hm : (low + high + 1) / 2 * ((low + high + 1) / 2) ≤ n
      · have hs' := Lib.hid (search_low hs m1 m2 hm)
        clear hs
        go_wp2
        go_round
        case rel => exact ⟨_, _, rfl, rfl, hs'.out⟩
        case measure => simp [intOf]; omega
      · have hs' := Lib.hid (search_high hs m1 m2 hm)
        clear hs
        go_wp2
        go_round
        case rel => exact ⟨_, _, rfl, rfl, hs'.out⟩
        case measure => simp [intOf]; omega
    · have hs' := Lib.hid (eq_rootOf h2 (search_end hs hlt))
      clear hs
      go_wp2
      go_ret
      exact ⟨by rw [hs'.out]; rfl, rfl⟩

theorem impl_root_no (n : Int) (w : World) (h : n ≤ 0) :
    Calls Try.prog 44 #[.int .i64 n] w fun e w' => e = .returned (.int .i64 0) ∧ w = w' := by
  go_enter Try.func44, Try.ntmps44
  go_wp2
  go_ret
  exact ⟨rfl, rfl⟩
theorem bitLen_is (x : Nat) : x ≠ 0 → x < 2 ^ 64 → ∃ k, Lib.bitLen x = k + 1 ∧ 2 ^ k ≤ x ∧ x < 2 ^ (k + 1) := by
  induction x using Nat.strongRecOn with
  | _ x ih =>
    intro h0 h
    rw [Lib.bitLen_half x h0 h]
    by_cases h1 : x = 1
    · subst h1
      exact ⟨0, rfl, by decide, by decide⟩
    · obtain ⟨k, e, a, b⟩ := ih (x / 2) (by omega) (by omega) (by omega)
      refine ⟨k + 1, by omega, ?_, ?_⟩
      · rw [Nat.pow_succ]; omega
      · rw [Nat.pow_succ]; omega
theorem len64 (n : Int) (k : Nat) (w : World) (h0 : 0 ≤ n) (h1 : n ≤ 9223372036854775807) (hk : Lib.bitLen n.toNat = k + 1) :
    Calls Try.prog 76 #[.int .u64 n] w fun e w' => e = .returned (.int .i64 ((k : Int) + 1)) ∧ w = w' :=
  (Try.bits_Len64 _ _ (by omega) (by omega)).mono fun e w' ⟨he, hw⟩ => ⟨by rw [he, hk]; rfl, hw.symm⟩
theorem impl_root_yes (n : Int) (w : World) (h0 : 0 < n) (h2 : n ≤ 9223372036854775807) :
    Calls Try.prog 44 #[.int .i64 n] w fun e w' => e = .returned (.int .i64 (rootOf n)) ∧ w = w' := by
  obtain ⟨k, hk, hk1, hk2⟩ := bitLen_is n.toNat (by omega) (by omega)
  have HK := Lib.hid hk
  have hk62 : k ≤ 62 := by
    by_cases g : k ≤ 62
    · exact g
    · have : 2 ^ 63 ≤ 2 ^ k := Nat.pow_le_pow_right (by decide) (by omega)
      omega
  have HK1 := Lib.hid hk1
  have HK2 := Lib.hid hk2
  clear hk hk1 hk2
  have hp : (0 : Int) ≤ (k : Int) / 2 := by omega
  go_enter Try.func44, Try.ntmps44
  go_wp2_with (go_at_call 76; refine (len64 _ k _ (by omega) (by omega) HK.out).mono ?_; rintro e w' ⟨rfl, rfl⟩)
  have hst := Lib.hid (st_start hk62 HK2.out)
  have hb0 : IntKind.u64.wrap (2 ^ (k / 2)) = ((2 ^ (k / 2) : Nat) : Int) := by
    have : (2 : Nat) ^ (k / 2) ≤ 2 ^ 31 := Nat.pow_le_pow_right (by decide) (by omega)
    have h3 : (2 : Nat) ^ (k / 2) ≤ 2147483648 := this
    have e : (2 : Int) ^ (k / 2) = ((2 ^ (k / 2) : Nat) : Int) := (Int.natCast_pow 2 _).symm
    rw [e]
    generalize 2 ^ (k / 2) = q at h3
    exact IntWalk.u64_in _ ⟨by omega, by omega⟩
  have HB := Lib.hid hb0
  clear hb0
  go_loop [4, 5] (fun x y => ∃ r b : Nat, x = .int .u64 r ∧ y = .int .u64 b ∧ St n.toNat r b) (fun _ y => (intOf y).toNat)
  case atStart => exact ⟨0, 2 ^ (k / 2), rfl, by rw [HB.out], hst.out⟩
  case round =>
    obtain ⟨r, b, rfl, rfl, hs⟩ := hrel
    have bd := st_bd hs
    by_cases hb : 0 < b
    · have hor : bits .or .u64 (r : Int) (b : Int) = (r : Int) + b := by
        rw [bits_or_u64_nat r b (by omega) (by omega), st_or hs hb]; exact Int.natCast_add _ _
      obtain ⟨hj, hd⟩ := st_pos hs hb
      obtain ⟨sq0, sq1⟩ := usq_bd (m := (r : Int) + b) (by omega) (by omega)
      have HS := Lib.hid hs
      clear hs
      by_cases ht : (r + b) * (r + b) ≤ n.toNat
      · have HN := Lib.hid (st_half hj (dig_take hd ht))
        clear hd hj
        have hti : ((r : Int) + b) * ((r : Int) + b) ≤ n := by
          have : (((r + b) * (r + b) : Nat) : Int) ≤ n := by omega
          exact_mod_cast this
        clear ht
        go_wp2
        go_round
        case rel => exact ⟨r + b, b / 2, by go_num, by go_num, HN.out⟩
        case measure => simp [intOf]; omega
      · have HN := Lib.hid (st_half hj (dig_skip hd ht))
        clear hd hj
        have hti : ¬ ((r : Int) + b) * ((r : Int) + b) ≤ n := by
          have : ¬ (((r + b) * (r + b) : Nat) : Int) ≤ n := by omega
          exact_mod_cast this
        clear ht
        go_wp2
        go_round
        case rel => exact ⟨r, b / 2, rfl, by go_num, HN.out⟩
        case measure => simp [intOf]; omega
    · obtain rfl : b = 0 := by omega
      have HE := Lib.hid (st_end (by omega) hs)
      clear hs
      go_wp2
      go_ret
      exact ⟨by have := HE.out; rw [show ((n.toNat : Nat) : Int) = n from by omega] at this; rw [← this]; rfl, rfl⟩
theorem impl_root (n : Int) (w : World) (h2 : n ≤ 9223372036854775807) :
    Calls Try.prog 44 #[.int .i64 n] w fun e w' => e = .returned (.int .i64 (rootOf n)) ∧ w = w' := by
  by_cases h : n ≤ 0
  · refine (impl_root_no n w h).mono fun e w' ⟨he, hw⟩ => ⟨?_, hw⟩
    have : n.toNat = 0 := by omega
    rw [he]; unfold rootOf; rw [this]; rfl
  · exact impl_root_yes n w (by omega) h2
end Go.Proofs.Ytmmhekakihimfaa.Root
