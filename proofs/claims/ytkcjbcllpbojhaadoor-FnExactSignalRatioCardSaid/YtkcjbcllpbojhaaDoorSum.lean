
/-
  What differences and sums of levels are, in the model and in the program. Conditions: each theorem's own.
-/
import Derived.Test.YtkcjbcllpbojhaaDoorPow
import Derived.Test.YtkcjbcllpbojhaaDoorInts
namespace Go.Proofs.YtkcjbcllpbojhaaDoor.Sum
open Go.RowKit
open Plain
open Log (ret_ii)

/-- A power at most 0 as a part of the greatest one. -/
noncomputable def part (v : Int) : Int := powDb (90000 + v)
theorem part_bd {v : Int} (h : v ≤ 0) : 0 ≤ part v ∧ part v ≤ 1000000000 := by
  unfold part
  by_cases h1 : 0 ≤ 90000 + v
  · rw [powDb_yes h1 (by omega)]
    have := powN_le (v := 90000 + v) (k := 9) (by omega) (by omega)
    have e : (10 : Nat) ^ 9 = 1000000000 := rfl
    omega
  · rw [powDb_no (by omega)]; omega
theorem part_one : 1 ≤ part 0 := by
  unfold part
  rw [powDb_yes (by omega) (by omega)]
  have := (powN_is (v := 90000 + 0) (by omega)).1
  omega
theorem spec_part (v : Int) (w : World) (h0 : -600000 ≤ v) (h : v ≤ 0) :
    Calls Tryd.prog 62 #[.int .i64 v] w fun e w' => e = .returned (.int .i64 (part v)) ∧ w = w' := by
  by_cases h1 : v < -90000
  · have en := Lib.hid (show part v = 0 from powDb_no (by omega))
    go_enter Tryd.func62, Tryd.ntmps62
    go_wp2_with fail
    go_ret
    exact ⟨ret_int en.out.symm, rfl⟩
  · have en := Lib.hid (show part v = (powN (90000 + v) : Nat) from powDb_yes (by omega) (by omega))
    go_enter Tryd.func62, Tryd.ntmps62
    go_wp2_with fail
    refine (Pow.spec_pow _ _ (by omega)).mono ?_
    rintro e w1 ⟨rfl, rfl⟩
    go_wp2_with fail
    go_ret
    exact ⟨ret_int en.out.symm, rfl⟩
theorem impl_part (v : Int) (w : World) (h0 : -600000 ≤ v) (h : v ≤ 0) :
    Calls Tryd.prog 69 #[.int .i64 v] w fun e w' => e = .returned (.int .i64 (part v)) ∧ On w w' := by
  go_enter Tryd.func69, Tryd.ntmps69
  go_wp2_with fail
  refine (Pow.impl_powDb _ _).mono ?_
  rintro e w1 ⟨rfl, ho⟩
  go_wp2_with fail
  go_ret
  exact ⟨rfl, ho⟩
theorem spec_level (v : Int) (w : World) :
    Calls Tryd.prog 36 #[.int .i64 v] w fun e w' => e = .returned (.bool (inB v (-300000) 300000)) ∧ w = w' := by
  go_enter Tryd.func36, Tryd.ntmps36
  go_wp2_with (go_at_call 29; refine (Arith.l00In _ _ _ _).mono ?_; rintro e w' ⟨rfl, rfl⟩)
  go_ret
  exact ⟨rfl, rfl⟩
theorem impl_level (v : Int) (w : World) :
    Calls Tryd.prog 86 #[.int .i64 v] w fun e w' => e = .returned (.bool (inB v (-300000) 300000)) ∧ w = w' := by
  go_enter Tryd.func86, Tryd.ntmps86
  go_wp2_with (go_at_call 22; refine (Arith.within _ _ _ _).mono ?_; rintro e w' ⟨rfl, rfl⟩)
  go_ret
  exact ⟨rfl, rfl⟩

/-- The level of a difference, with its code. -/
noncomputable def diffV (a b : Int) : Int := if inB a (-300000) 300000 = true ∧ inB b (-300000) 300000 = true ∧ b < a ∧ part (b - a) ≠ 1000000000 then a - 90000 + logDb (1000000000 - part (b - a)) else 0
noncomputable def diffC (a b : Int) : Int := if inB a (-300000) 300000 = true ∧ inB b (-300000) 300000 = true then (if b < a ∧ part (b - a) ≠ 1000000000 then 0 else 6) else 2
theorem diff_range {a b : Int} (h : inB a (-300000) 300000 = false ∨ inB b (-300000) 300000 = false) : diffV a b = 0 ∧ diffC a b = 2 := by
  unfold diffV diffC
  rcases h with h | h <;> simp [h]
theorem diff_state {a b : Int} (h1 : inB a (-300000) 300000 = true) (h2 : inB b (-300000) 300000 = true) (h : ¬ (b < a ∧ part (b - a) ≠ 1000000000)) : diffV a b = 0 ∧ diffC a b = 6 := by
  unfold diffV diffC
  rw [if_neg (fun k => h ⟨k.2.2.1, k.2.2.2⟩), if_pos ⟨h1, h2⟩, if_neg h]
  exact ⟨rfl, rfl⟩
theorem diff_ok {a b : Int} (h1 : inB a (-300000) 300000 = true) (h2 : inB b (-300000) 300000 = true) (h3 : b < a) (h4 : part (b - a) ≠ 1000000000) : diffV a b = a - 90000 + logDb (1000000000 - part (b - a)) ∧ diffC a b = 0 := by
  unfold diffV diffC
  rw [if_pos ⟨h1, h2, h3, h4⟩, if_pos ⟨h1, h2⟩, if_pos ⟨h3, h4⟩]
  exact ⟨rfl, rfl⟩
end Go.Proofs.YtkcjbcllpbojhaaDoor.Sum
