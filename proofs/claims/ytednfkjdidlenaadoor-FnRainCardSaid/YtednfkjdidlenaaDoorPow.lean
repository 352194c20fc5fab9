
/-
  What the least number with a logarithm is, in the model and in the program. Conditions: each theorem's own.
-/
import Derived.Test.YtednfkjdidlenaaDoorRatio
import Derived.Test.YtednfkjdidlenaaDoorPowPlain
import Derived.Test.YtednfkjdidlenaaDoorArith
namespace Go.Proofs.YtednfkjdidlenaaDoor.Pow
open Go.RowKit
open Plain
open Log (pw)

theorem tdiv_ten {v : Int} (h0 : 0 ≤ v) : ∃ k : Nat, v / 10000 = (k : Int) ∧ 10000 * (k : Int) ≤ v ∧ v < 10000 * (k : Int) + 10000 := by
  obtain ⟨k, hk⟩ := Int.eq_ofNat_of_zero_le (a := v / 10000) (by omega)
  exact ⟨k, hk, by omega, by omega⟩
theorem gmin_nat (k : Nat) : Turn.gmin ((k : Int) + 1) 18 = ((min (k + 1) 18 : Nat) : Int) := by unfold Turn.gmin; split <;> omega
set_option maxHeartbeats 1000000 in
theorem impl_pow_yes (v : Int) (w : World) (h0 : 0 ≤ v) (h : v ≤ 180000) :
    Calls Tryd.prog 36 #[.int .i64 v] w fun e w' => e = .returned (.int .i64 (powN v : Nat)) ∧ On w w' := by
  obtain ⟨k, hk, k1, k2⟩ := tdiv_ten h0
  have k18 : k ≤ 18 := by omega
  have HK := Lib.hid hk
  have HG := Lib.hid (gmin_nat k)
  obtain ⟨k', hk'⟩ : ∃ k', k' = min (k + 1) 18 := ⟨_, rfl⟩
  have k'18 : k' ≤ 18 := by omega
  have hs0 := srch_near h k1 k2
  have hp0 : 10 ^ (min (k + 1) 18) ≤ 1000000000000000000 := Log.pow_le _ (by omega)
  rw [← hk'] at HG hs0 hp0
  have hin := inB_yes h0 h
  clear hk hk' k1 k2
  obtain ⟨p, hp⟩ : ∃ p, p = 10 ^ k := ⟨_, rfl⟩
  obtain ⟨q, hq⟩ : ∃ q, q = 10 ^ k' := ⟨_, rfl⟩
  rw [← hp, ← hq] at hs0
  rw [← hq] at hp0
  have T1 : ∀ w, Calls Tryd.prog 43 #[.int .i64 k] w fun x w' => x = .returned (.int .i64 (p : Nat)) ∧ w = w' := fun w => by rw [hp]; exact Log.impl_tenTo k w k18
  have T2 : ∀ w, Calls Tryd.prog 43 #[.int .i64 k'] w fun x w' => x = .returned (.int .i64 (q : Nat)) ∧ w = w' := fun w => by rw [hq]; exact Log.impl_tenTo k' w k'18
  have HT1 := Lib.hid T1
  have HT2 := Lib.hid T2
  have HS := Lib.hid hs0
  clear T1 T2 hs0 hp hq
  go_enter Tryd.func36, Tryd.ntmps36
  go_wp2_with fail
  refine (Arith.within _ _ _ _).mono ?_
  rintro e w1 ⟨rfl, rfl⟩
  go_wp2_with fail
  rw [HK.out]
  refine (HT1.out _).mono ?_
  rintro e w1 ⟨rfl, rfl⟩
  go_wp2_with fail
  rw [HK.out]
  refine (Turn.impl_least _ _ _).mono ?_
  rintro e w1 ⟨rfl, rfl⟩
  go_wp2_with fail
  rw [HG.out]
  refine (HT2.out _).mono ?_
  rintro e w1 ⟨rfl, rfl⟩
  go_wp2_with fail
  go_loopw [3, 4] (fun x y wr => ∃ lo hi : Nat, x = .int .i64 lo ∧ y = .int .i64 hi ∧ hi ≤ 1000000000000000000 ∧ Srch v lo hi ∧ On w wr) (fun x y _ => (intOf y - intOf x).toNat)
  case atStart => exact ⟨p, q, rfl, rfl, by omega, HS.out, On.refl _⟩
  case round =>
    obtain ⟨lo, hi, rfl, rfl, hb, hs, ho⟩ := hrel
    have b1 : 0 < lo := hs.1
    have b2 : lo ≤ hi := hs.2.1
    by_cases hlt : lo < hi
    · obtain ⟨m, hm⟩ : ∃ m, m = lo + (hi - lo) / 2 := ⟨_, rfl⟩
      have HM := Lib.hid (show (lo : Int) + ((hi : Int) - (lo : Int)) / 2 = (m : Int) by omega)
      have m1 : lo ≤ m := by omega
      have m2 : m < hi := by omega
      have HL := Lib.hid (fun w => Log.impl_log m w (by omega) (by omega))
      clear hm
      by_cases hg : v ≤ logN m
      · have hs' := Lib.hid (srch_high hs m1 hg)
        clear hs
        go_wp2_with fail
        rw [HM.out]
        refine (HL.out _).mono ?_
        rintro e w1 ⟨rfl, ho1⟩
        go_wp2_with fail
        go_roundw
        case rel => exact ⟨lo, m, rfl, rfl, by omega, hs'.out, ho.trans ho1⟩
        case measure => simp [intOf]; omega
      · have hs' := Lib.hid (srch_low hs m2 hg)
        clear hs
        go_wp2_with fail
        rw [HM.out]
        refine (HL.out _).mono ?_
        rintro e w1 ⟨rfl, ho1⟩
        go_wp2_with fail
        go_roundw
        case rel => exact ⟨m + 1, hi, by go_num, rfl, by omega, hs'.out, ho.trans ho1⟩
        case measure => simp [intOf]; omega
    · have hs' := Lib.hid (powN_eq h (srch_end hs hlt))
      clear hs
      go_wp2
      go_ret
      exact ⟨ret_int (by rw [hs'.out]), ho⟩
theorem impl_powDb (v : Int) (w : World) :
    Calls Tryd.prog 36 #[.int .i64 v] w fun e w' => e = .returned (.int .i64 (powDb v)) ∧ On w w' := by
  by_cases h : 0 ≤ v ∧ v ≤ 180000
  · rw [powDb_yes h.1 h.2]
    exact impl_pow_yes v w h.1 h.2
  · have hin := inB_no (v := v) (lo := 0) (hi := 180000) (by omega)
    have en := Lib.hid (powDb_no h)
    clear h
    go_enter Tryd.func36, Tryd.ntmps36
    go_wp2_with (go_at_call 30; refine (Arith.within _ _ _ _).mono ?_; rintro e w' ⟨rfl, rfl⟩)
    go_ret
    exact ⟨ret_int en.out.symm, On.refl _⟩
end Go.Proofs.YtednfkjdidlenaaDoor.Pow
