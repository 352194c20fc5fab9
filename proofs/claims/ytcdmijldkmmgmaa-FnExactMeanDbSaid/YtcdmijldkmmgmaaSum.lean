
/-
  What differences and sums of levels are, in the model and in the program. Conditions: each theorem's own.
-/
import Derived.Test.YtcdmijldkmmgmaaPow
import Derived.Test.YtcdmijldkmmgmaaInts
namespace Go.Proofs.Ytcdmijldkmmgmaa.Sum
open Go.RowKit
open Plain
open Log (ret_ii)

/-- A power at most 0 as a part of the greatest one. -/
noncomputable def part (v : Int) : Int := powDb (90000 + v)
theorem part_bd {v : Int} (h : v ≤ 0) : 0 ≤ part v ∧ part v ≤ 1000000000 := by
  unfold part
  by_cases h1 : 0 ≤ 90000 + v
  · rw [powDb_yes h1 (by omega)]
    have := powN_le (v := 90000 + v) (k := 9) (by omega) (by omega)
    have e : (10 : Nat) ^ 9 = 1000000000 := rfl
    omega
  · rw [powDb_no (by omega)]; omega
theorem part_one : 1 ≤ part 0 := by
  unfold part
  rw [powDb_yes (by omega) (by omega)]
  have := (powN_is (v := 90000 + 0) (by omega)).1
  omega
theorem spec_part (v : Int) (w : World) (h0 : -600000 ≤ v) (h : v ≤ 0) :
    Calls Try.prog 59 #[.int .i64 v] w fun e w' => e = .returned (.int .i64 (part v)) ∧ w = w' := by
  by_cases h1 : v < -90000
  · have en := Lib.hid (show part v = 0 from powDb_no (by omega))
    go_enter Try.func59, Try.ntmps59
    go_wp2_with fail
    go_ret
    exact ⟨ret_int en.out.symm, rfl⟩
  · have en := Lib.hid (show part v = (powN (90000 + v) : Nat) from powDb_yes (by omega) (by omega))
    go_enter Try.func59, Try.ntmps59
    go_wp2_with fail
    refine (Pow.spec_pow _ _ (by omega)).mono ?_
    rintro e w1 ⟨rfl, rfl⟩
    go_wp2_with fail
    go_ret
    exact ⟨ret_int en.out.symm, rfl⟩
theorem impl_part (v : Int) (w : World) (h0 : -600000 ≤ v) (h : v ≤ 0) :
    Calls Try.prog 62 #[.int .i64 v] w fun e w' => e = .returned (.int .i64 (part v)) ∧ On w w' := by
  go_enter Try.func62, Try.ntmps62
  go_wp2_with fail
  refine (Pow.impl_powDb _ _).mono ?_
  rintro e w1 ⟨rfl, ho⟩
  go_wp2_with fail
  go_ret
  exact ⟨rfl, ho⟩
theorem spec_level (v : Int) (w : World) :
    Calls Try.prog 58 #[.int .i64 v] w fun e w' => e = .returned (.bool (inB v (-300000) 300000)) ∧ w = w' := by
  go_enter Try.func58, Try.ntmps58
  go_wp2_with (go_at_call 52; refine (Arith.l00In _ _ _ _).mono ?_; rintro e w' ⟨rfl, rfl⟩)
  go_ret
  exact ⟨rfl, rfl⟩
theorem impl_level (v : Int) (w : World) :
    Calls Try.prog 61 #[.int .i64 v] w fun e w' => e = .returned (.bool (inB v (-300000) 300000)) ∧ w = w' := by
  go_enter Try.func61, Try.ntmps61
  go_wp2_with (go_at_call 46; refine (Arith.within _ _ _ _).mono ?_; rintro e w' ⟨rfl, rfl⟩)
  go_ret
  exact ⟨rfl, rfl⟩

/-- The level of a difference, with its code. -/
noncomputable def diffV (a b : Int) : Int := if inB a (-300000) 300000 = true ∧ inB b (-300000) 300000 = true ∧ b < a ∧ part (b - a) ≠ 1000000000 then a - 90000 + logDb (1000000000 - part (b - a)) else 0
noncomputable def diffC (a b : Int) : Int := if inB a (-300000) 300000 = true ∧ inB b (-300000) 300000 = true then (if b < a ∧ part (b - a) ≠ 1000000000 then 0 else 6) else 2
theorem diff_range {a b : Int} (h : inB a (-300000) 300000 = false ∨ inB b (-300000) 300000 = false) : diffV a b = 0 ∧ diffC a b = 2 := by
  unfold diffV diffC
  rcases h with h | h <;> simp [h]
theorem diff_state {a b : Int} (h1 : inB a (-300000) 300000 = true) (h2 : inB b (-300000) 300000 = true) (h : ¬ (b < a ∧ part (b - a) ≠ 1000000000)) : diffV a b = 0 ∧ diffC a b = 6 := by
  unfold diffV diffC
  rw [if_neg (fun k => h ⟨k.2.2.1, k.2.2.2⟩), if_pos ⟨h1, h2⟩, if_neg h]
  exact ⟨rfl, rfl⟩
theorem diff_ok {a b : Int} (h1 : inB a (-300000) 300000 = true) (h2 : inB b (-300000) 300000 = true) (h3 : b < a) (h4 : part (b - a) ≠ 1000000000) : diffV a b = a - 90000 + logDb (1000000000 - part (b - a)) ∧ diffC a b = 0 := by
  unfold diffV diffC
  rw [if_pos ⟨h1, h2, h3, h4⟩, if_pos ⟨h1, h2⟩, if_pos ⟨h3, h4⟩]
  exact ⟨rfl, rfl⟩
set_option maxHeartbeats 1000000 in
theorem spec_diff (a b : Int) (w : World) :
    Calls Try.prog 23 #[.int .i64 a, .int .i64 b] w fun e w' => e = .returned (.tuple #[.int .i64 (diffV a b), .int .i64 (diffC a b)]) ∧ w = w' := by
  cases h1 : inB a (-300000) 300000 with
  | false =>
    have en := Lib.hid (diff_range (b := b) (.inl h1))
    go_enter Try.func23, Try.ntmps23
    go_wp2_with (go_at_call 58; refine (spec_level _ _).mono ?_; rintro e w' ⟨rfl, rfl⟩)
    go_ret2
    exact ⟨ret_ii en.out.1.symm en.out.2.symm, rfl⟩
  | true =>
    cases h2 : inB b (-300000) 300000 with
    | false =>
      have en := Lib.hid (diff_range (a := a) (.inr h2))
      go_enter Try.func23, Try.ntmps23
      go_wp2_with (go_at_call 58; refine (spec_level _ _).mono ?_; rintro e w' ⟨rfl, rfl⟩)
      go_ret2
      exact ⟨ret_ii en.out.1.symm en.out.2.symm, rfl⟩
    | true =>
      obtain ⟨a0, a1⟩ := of_inB h1
      obtain ⟨b0, b1⟩ := of_inB h2
      by_cases h3 : b < a
      · obtain ⟨q0, q1⟩ := part_bd (v := b - a) (by omega)
        have HP := Lib.hid (fun w => spec_part (b - a) w (by omega) (by omega))
        by_cases h4 : part (b - a) = 1000000000
        · have en := Lib.hid (diff_state h1 h2 (fun k => k.2 h4))
          have h5 : 1000000000 - part (b - a) < 1 := by omega
          clear h4
          go_enter Try.func23, Try.ntmps23
          go_wp2_with (first | (go_at_call 58; refine (spec_level _ _).mono ?_; rintro e w' ⟨rfl, rfl⟩) | (go_at_call 59; refine (HP.out _).mono ?_; rintro e w' ⟨rfl, rfl⟩))
          go_ret2
          exact ⟨ret_ii en.out.1.symm en.out.2.symm, rfl⟩
        · have en := Lib.hid (diff_ok h1 h2 h3 h4)
          have h5 : ¬ 1000000000 - part (b - a) < 1 := by omega
          obtain ⟨l0, l1⟩ := logDb_bd (n := 1000000000 - part (b - a)) (by omega)
          have HL := Lib.hid (fun w => Log.spec_logI (1000000000 - part (b - a)) w h5 (by omega))
          clear h4
          go_enter Try.func23, Try.ntmps23
          go_wp2_with (first | (go_at_call 58; refine (spec_level _ _).mono ?_; rintro e w' ⟨rfl, rfl⟩) | (go_at_call 59; refine (HP.out _).mono ?_; rintro e w' ⟨rfl, rfl⟩) | (go_at_call 60; refine (HL.out _).mono ?_; rintro e w' ⟨rfl, rfl⟩))
          go_ret2
          exact ⟨ret_ii en.out.1.symm en.out.2.symm, rfl⟩
      · have en := Lib.hid (diff_state h1 h2 (fun k => h3 k.1))
        go_enter Try.func23, Try.ntmps23
        go_wp2_with (go_at_call 58; refine (spec_level _ _).mono ?_; rintro e w' ⟨rfl, rfl⟩)
        go_ret2
        exact ⟨ret_ii en.out.1.symm en.out.2.symm, rfl⟩
set_option maxHeartbeats 1000000 in
theorem impl_diff (a b : Int) (w : World) :
    Calls Try.prog 24 #[.int .i64 a, .int .i64 b] w fun e w' => e = .returned (.tuple #[.int .i64 (diffV a b), .int .i64 (diffC a b)]) ∧ On w w' := by
  cases h1 : inB a (-300000) 300000 with
  | false =>
    have en := Lib.hid (diff_range (b := b) (.inl h1))
    go_enter Try.func24, Try.ntmps24
    go_wp2_with (go_at_call 61; refine (impl_level _ _).mono ?_; rintro e w' ⟨rfl, rfl⟩)
    go_ret2
    exact ⟨ret_ii en.out.1.symm en.out.2.symm, On.refl _⟩
  | true =>
    cases h2 : inB b (-300000) 300000 with
    | false =>
      have en := Lib.hid (diff_range (a := a) (.inr h2))
      go_enter Try.func24, Try.ntmps24
      go_wp2_with (go_at_call 61; refine (impl_level _ _).mono ?_; rintro e w' ⟨rfl, rfl⟩)
      go_ret2
      exact ⟨ret_ii en.out.1.symm en.out.2.symm, On.refl _⟩
    | true =>
      obtain ⟨a0, a1⟩ := of_inB h1
      obtain ⟨b0, b1⟩ := of_inB h2
      by_cases h3 : b < a
      · obtain ⟨q0, q1⟩ := part_bd (v := b - a) (by omega)
        have HP := Lib.hid (fun w => impl_part (b - a) w (by omega) (by omega))
        by_cases h4 : part (b - a) = 1000000000
        · have en := Lib.hid (diff_state h1 h2 (fun k => k.2 h4))
          have h5 : (part (b - a) == 1000000000) = true := beq_iff_eq.2 h4
          clear h4
          go_enter Try.func24, Try.ntmps24
          go_wp2_with (go_at_call 61; refine (impl_level _ _).mono ?_; rintro e w' ⟨rfl, rfl⟩)
          refine (HP.out _).mono ?_
          rintro e w1 ⟨rfl, ho1⟩
          go_wp2_with fail
          go_ret2
          exact ⟨ret_ii en.out.1.symm en.out.2.symm, ho1⟩
        · have en := Lib.hid (diff_ok h1 h2 h3 h4)
          have h5 : (part (b - a) == 1000000000) = false := beq_eq_false_iff_ne.2 h4
          obtain ⟨l0, l1⟩ := logDb_bd (n := 1000000000 - part (b - a)) (by omega)
          have HL := Lib.hid (fun w => Log.impl_logDb (1000000000 - part (b - a)) w (by omega))
          clear h4
          go_enter Try.func24, Try.ntmps24
          go_wp2_with (go_at_call 61; refine (impl_level _ _).mono ?_; rintro e w' ⟨rfl, rfl⟩)
          refine (HP.out _).mono ?_
          rintro e w1 ⟨rfl, ho1⟩
          go_wp2_with fail
          refine (HP.out _).mono ?_
          rintro e w2 ⟨rfl, ho2⟩
          go_wp2_with fail
          refine (HL.out _).mono ?_
          rintro e w3 ⟨rfl, ho3⟩
          go_wp2_with fail
          go_ret2
          exact ⟨ret_ii en.out.1.symm en.out.2.symm, (ho1.trans ho2).trans ho3⟩
      · have en := Lib.hid (diff_state h1 h2 (fun k => h3 k.1))
        go_enter Try.func24, Try.ntmps24
        go_wp2_with (go_at_call 61; refine (impl_level _ _).mono ?_; rintro e w' ⟨rfl, rfl⟩)
        go_ret2
        exact ⟨ret_ii en.out.1.symm en.out.2.symm, On.refl _⟩
end Go.Proofs.Ytcdmijldkmmgmaa.Sum
