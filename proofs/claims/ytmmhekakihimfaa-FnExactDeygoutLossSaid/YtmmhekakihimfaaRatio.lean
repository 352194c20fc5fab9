
/-
  What ratios are, in the model and in the program. No condition but that a number fits its kind.
-/
import Derived.Test.YtmmhekakihimfaaLogDb
namespace Go.Proofs.Ytmmhekakihimfaa.Log
open Go.RowKit
open Plain

def ratio (a b : Int) : Int := if a < 1 ∨ b < 1 then 0 else logDb a - logDb b
theorem ratio_no {a b : Int} (h : a < 1 ∨ b < 1) : ratio a b = 0 := if_pos h
theorem ratio_yes {a b : Int} (h1 : ¬ a < 1) (h2 : ¬ b < 1) : ratio a b = logDb a - logDb b := if_neg (by omega)
theorem spec_logI (n : Int) (w : World) (h0 : ¬ n < 1) (h1 : n ≤ 9223372036854775807) :
    Calls Try.prog 75 #[.int .i64 n] w fun e w' => e = .returned (.int .i64 (logDb n)) ∧ w = w' := by
  obtain ⟨m, rfl⟩ := Int.eq_ofNat_of_zero_le (a := n) (by omega)
  rw [logDb_yes (by omega)]
  exact spec_log m w (by omega) (by omega)
theorem impl_ratio (a b : Int) (w : World) (a1 : a ≤ 9223372036854775807) (b1 : b ≤ 9223372036854775807) :
    Calls Try.prog 46 #[.int .i64 a, .int .i64 b] w fun e w' => e = .returned (.int .i64 (ratio a b)) ∧ On w w' := by
  by_cases ha : a < 1
  · rw [ratio_no (.inl ha)]
    go_enter Try.func46, Try.ntmps46
    go_wp2
    go_ret
    exact ⟨rfl, On.refl _⟩
  · by_cases hb : b < 1
    · rw [ratio_no (.inr hb)]
      go_enter Try.func46, Try.ntmps46
      go_wp2
      go_ret
      exact ⟨rfl, On.refl _⟩
    · have HR := Lib.hid (ratio_yes ha hb)
      obtain ⟨l1, l2⟩ := logDb_bd a1
      obtain ⟨l3, l4⟩ := logDb_bd b1
      have HA := Lib.hid (fun w => impl_logDb a w a1)
      have HB := Lib.hid (fun w => impl_logDb b w b1)
      go_enter Try.func46, Try.ntmps46
      go_wp2_with fail
      refine (HA.out _).mono ?_
      rintro e w1 ⟨rfl, h1⟩
      go_wp2_with fail
      refine (HB.out _).mono ?_
      rintro e w2 ⟨rfl, h2⟩
      go_wp2_with fail
      go_ret
      exact ⟨ret_int HR.out.symm, h1.trans h2⟩
end Go.Proofs.Ytmmhekakihimfaa.Log
