
/-
  What the bulge of the earth, the radius of the first zone and the distance of the horizon are, in the model and in the program. Conditions: each theorem's own.
-/
import Derived.Test.YtmmhekakihimfaaProg
import Derived.Test.YtmmhekakihimfaaArith
import Derived.Test.YtmmhekakihimfaaRoot
import Derived.WalkKit
import Derived.Lib.Hide
import Derived.IntWalk
namespace Go.Proofs.Ytmmhekakihimfaa.Earth
open Go.RowKit
open Plain
open Arith (ret_int)

theorem prod_bd {a b : Int} (a0 : 0 ≤ a) (a1 : a ≤ 283000) (b0 : 0 ≤ b) (b1 : b ≤ 283000) : 0 ≤ a * b ∧ a * b ≤ 80089000000 := by
  have h1 : a * b ≤ 283000 * b := Int.mul_le_mul_of_nonneg_right a1 b0
  have h2 : 0 ≤ a * b := Int.mul_nonneg a0 b0
  omega
theorem ten_bd {a b : Int} (a0 : 0 ≤ a) (a1 : a ≤ 283000) (b0 : 0 ≤ b) (b1 : b ≤ 283000) : 0 ≤ 10 * a * b ∧ 10 * a * b ≤ 800890000000 := by
  obtain ⟨h1, h2⟩ := prod_bd a0 a1 b0 b1
  rw [Int.mul_assoc]
  omega
theorem wave_bd {a b : Int} (a0 : 0 ≤ a) (a1 : a ≤ 283000) (b0 : 0 ≤ b) (b1 : b ≤ 283000) : 0 ≤ 29979246 * a * b ∧ 29979246 * a * b ≤ 2401007832894000000 := by
  obtain ⟨h1, h2⟩ := prod_bd a0 a1 b0 b1
  rw [Int.mul_assoc]
  omega
/-- The bulge. -/
def bulge (a b : Int) : Int := near (10 * a * b) 16989334
def bulgeAt (a b : Int) : Int := if (inB a 0 283000 && inB b 0 283000) = true then bulge a b else 0
theorem bulgeAt_yes {a b : Int} (h1 : inB a 0 283000 = true) (h2 : inB b 0 283000 = true) : bulgeAt a b = bulge a b := by unfold bulgeAt; rw [h1, h2]; rfl
theorem bulgeAt_no {a b : Int} (h : inB a 0 283000 = false ∨ inB b 0 283000 = false) : bulgeAt a b = 0 := by
  unfold bulgeAt; rw [if_neg]; rcases h with h | h <;> simp [h]

theorem spec_bulge (a b : Int) (w : World) (a0 : 0 ≤ a) (a1 : a ≤ 283000) (b0 : 0 ≤ b) (b1 : b ≤ 283000) :
    Calls Try.prog 105 #[.int .i64 a, .int .i64 b] w fun e w' => e = .returned (.int .i64 (bulge a b)) ∧ w = w' := by
  obtain ⟨h1, h2⟩ := ten_bd a0 a1 b0 b1
  go_enter Try.func105, Try.ntmps105
  go_wp2_with fail
  refine (Arith.l01Div (10 * a * b) 16989334 _ (by omega) (by omega) (by omega) (by omega) (by omega)).mono ?_
  rintro e w' ⟨rfl, rfl⟩
  go_wp2_with fail
  go_ret
  exact ⟨rfl, rfl⟩
theorem impl_bulgeAt (a b : Int) (w : World) :
    Calls Try.prog 107 #[.int .i64 a, .int .i64 b] w fun e w' => e = .returned (.int .i64 (bulgeAt a b)) ∧ ∃ n, w' = w.drewN n := by
  cases h1 : inB a 0 283000 with
  | false =>
    have en := Lib.hid (bulgeAt_no (b := b) (.inl h1))
    go_enter Try.func107, Try.ntmps107
    go_wp2_with (go_at_call 43; refine (Arith.within _ _ _ _).mono ?_; rintro e w' ⟨rfl, rfl⟩)
    go_ret
    exact ⟨ret_int en.out.symm, 0, rfl⟩
  | true =>
    cases h2 : inB b 0 283000 with
    | false =>
      have en := Lib.hid (bulgeAt_no (a := a) (.inr h2))
      go_enter Try.func107, Try.ntmps107
      go_wp2_with (go_at_call 43; refine (Arith.within _ _ _ _).mono ?_; rintro e w' ⟨rfl, rfl⟩)
      go_ret
      exact ⟨ret_int en.out.symm, 0, rfl⟩
    | true =>
      have en := Lib.hid (bulgeAt_yes h1 h2)
      obtain ⟨t1, t2⟩ := ten_bd (of_inB h1).1 (of_inB h1).2 (of_inB h2).1 (of_inB h2).2
      obtain ⟨a0, a1⟩ := of_inB h1
      go_enter Try.func107, Try.ntmps107
      go_wp2_with (first | (go_at_call 43; refine (Arith.within _ _ _ _).mono ?_; rintro e w' ⟨rfl, rfl⟩) | (go_at_call 86; refine (Arith.nearest (10 * a * b) 16989334 _ (by omega) (by omega) (by omega) (by omega) (by omega)).mono ?_; rintro e w' ⟨rfl, n, rfl⟩))
      go_ret
      exact ⟨ret_int en.out.symm, _, rfl⟩

/-- The radius of the first zone. -/
def fres (f a b : Int) : Int := if a + b = 0 then 0 else rootOf (29979246 * a * b / (f * (a + b)))
def fresnel (f a b : Int) : Int := if (inB f 1 100000000 && inB a 0 283000 && inB b 0 283000) = true then fres f a b else 0
theorem fresnel_yes {f a b : Int} (h0 : inB f 1 100000000 = true) (h1 : inB a 0 283000 = true) (h2 : inB b 0 283000 = true) : fresnel f a b = fres f a b := by unfold fresnel; rw [h0, h1, h2]; rfl
theorem fresnel_no {f a b : Int} (h : inB f 1 100000000 = false ∨ inB a 0 283000 = false ∨ inB b 0 283000 = false) : fresnel f a b = 0 := by
  unfold fresnel; rw [if_neg]; rcases h with h | h | h <;> simp [h]
theorem fres_none {f a b : Int} (h : a + b = 0) : fres f a b = 0 := if_pos h
theorem fres_some {f a b : Int} (h : ¬ a + b = 0) : fres f a b = rootOf (29979246 * a * b / (f * (a + b))) := if_neg h
theorem den_bd {f a b : Int} (f0 : 1 ≤ f) (f1 : f ≤ 100000000) (a0 : 0 ≤ a) (a1 : a ≤ 283000) (b0 : 0 ≤ b) (b1 : b ≤ 283000) (h : ¬ a + b = 0) : 0 < f * (a + b) ∧ f * (a + b) ≤ 56600000000000 := by
  have h1 : f * (a + b) ≤ 100000000 * (a + b) := Int.mul_le_mul_of_nonneg_right f1 (by omega)
  have h2 : 0 < f * (a + b) := Int.mul_pos (by omega) (by omega)
  omega
theorem quo_bd {p q : Int} (p0 : 0 ≤ p) (p1 : p ≤ 2401007832894000000) (q0 : 0 < q) : 0 ≤ p / q ∧ p / q ≤ 9223372036854775807 := by
  have h1 := Int.ediv_nonneg p0 (Int.le_of_lt q0)
  have h2 := Int.ediv_le_self q p0
  omega
theorem spec_fresnel (f a b : Int) (w : World) (f0 : 1 ≤ f) (f1 : f ≤ 100000000) (a0 : 0 ≤ a) (a1 : a ≤ 283000) (b0 : 0 ≤ b) (b1 : b ≤ 283000) :
    Calls Try.prog 81 #[.int .i64 f, .int .i64 a, .int .i64 b] w fun e w' => e = .returned (.int .i64 (fres f a b)) ∧ w = w' := by
  by_cases h : a + b = 0
  · have en := Lib.hid (fres_none (f := f) h)
    have hb : (a + b == 0) = true := beq_iff_eq.2 h
    clear h
    go_enter Try.func81, Try.ntmps81
    go_wp2_with fail
    go_ret
    exact ⟨ret_int en.out.symm, rfl⟩
  · have en := Lib.hid (fres_some (f := f) h)
    obtain ⟨p0, p1⟩ := wave_bd a0 a1 b0 b1
    obtain ⟨q0, q1⟩ := den_bd f0 f1 a0 a1 b0 b1 h
    have HQ := Lib.hid (quo_bd p0 p1 q0).2
    have hb : (a + b == 0) = false := beq_eq_false_iff_ne.2 h
    clear h
    go_enter Try.func81, Try.ntmps81
    go_wp2_with fail
    refine (Root.spec_root _ _ HQ.out).mono ?_
    rintro e w' ⟨rfl, rfl⟩
    go_wp2_with fail
    go_ret
    exact ⟨ret_int en.out.symm, rfl⟩
theorem spec_freq (f : Int) (w : World) :
    Calls Try.prog 68 #[.int .i64 f] w fun e w' => e = .returned (.bool (inB f 1 100000000)) ∧ w = w' := by
  go_enter Try.func68, Try.ntmps68
  go_wp2_with (go_at_call 41; refine (Arith.l00In _ _ _ _).mono ?_; rintro e w' ⟨rfl, rfl⟩)
  go_ret
  exact ⟨rfl, rfl⟩
theorem impl_freq (f : Int) (w : World) :
    Calls Try.prog 82 #[.int .i64 f] w fun e w' => e = .returned (.bool (inB f 1 100000000)) ∧ w = w' := by
  go_enter Try.func82, Try.ntmps82
  go_wp2_with (go_at_call 43; refine (Arith.within _ _ _ _).mono ?_; rintro e w' ⟨rfl, rfl⟩)
  go_ret
  exact ⟨rfl, rfl⟩
theorem impl_fresnelRadius (f a b : Int) (w : World) :
    Calls Try.prog 111 #[.int .i64 f, .int .i64 a, .int .i64 b] w fun e w' => e = .returned (.int .i64 (fresnel f a b)) ∧ w = w' := by
  cases h1 : inB a 0 283000 with
  | false =>
    have en := Lib.hid (fresnel_no (f := f) (b := b) (.inr (.inl h1)))
    go_enter Try.func111, Try.ntmps111
    go_wp2_with (go_at_call 43; refine (Arith.within _ _ _ _).mono ?_; rintro e w' ⟨rfl, rfl⟩)
    go_ret
    exact ⟨ret_int en.out.symm, rfl⟩
  | true =>
    cases h2 : inB b 0 283000 with
    | false =>
      have en := Lib.hid (fresnel_no (f := f) (a := a) (.inr (.inr h2)))
      go_enter Try.func111, Try.ntmps111
      go_wp2_with (go_at_call 43; refine (Arith.within _ _ _ _).mono ?_; rintro e w' ⟨rfl, rfl⟩)
      go_ret
      exact ⟨ret_int en.out.symm, rfl⟩
    | true =>
      cases h0 : inB f 1 100000000 with
      | false =>
        have en := Lib.hid (fresnel_no (a := a) (b := b) (.inl h0))
        go_enter Try.func111, Try.ntmps111
        go_wp2_with (first | (go_at_call 82; refine (impl_freq _ _).mono ?_; rintro e w' ⟨rfl, rfl⟩) | (go_at_call 43; refine (Arith.within _ _ _ _).mono ?_; rintro e w' ⟨rfl, rfl⟩))
        go_ret
        exact ⟨ret_int en.out.symm, rfl⟩
      | true =>
        obtain ⟨a0, a1⟩ := of_inB h1
        obtain ⟨b0, b1⟩ := of_inB h2
        obtain ⟨f0, f1⟩ := of_inB h0
        by_cases h : a + b = 0
        · have en := Lib.hid ((fresnel_yes h0 h1 h2).trans (fres_none (f := f) h))
          have hb : (a + b == 0) = true := beq_iff_eq.2 h
          clear h
          go_enter Try.func111, Try.ntmps111
          go_wp2_with (first | (go_at_call 82; refine (impl_freq _ _).mono ?_; rintro e w' ⟨rfl, rfl⟩) | (go_at_call 43; refine (Arith.within _ _ _ _).mono ?_; rintro e w' ⟨rfl, rfl⟩))
          go_ret
          exact ⟨ret_int en.out.symm, rfl⟩
        · have en := Lib.hid ((fresnel_yes h0 h1 h2).trans (fres_some (f := f) h))
          obtain ⟨p0, p1⟩ := wave_bd a0 a1 b0 b1
          obtain ⟨q0, q1⟩ := den_bd f0 f1 a0 a1 b0 b1 h
          have HQ := Lib.hid (quo_bd p0 p1 q0).2
          have hb : (a + b == 0) = false := beq_eq_false_iff_ne.2 h
          clear h
          go_enter Try.func111, Try.ntmps111
          go_wp2_with (first | (go_at_call 82; refine (impl_freq _ _).mono ?_; rintro e w' ⟨rfl, rfl⟩) | (go_at_call 43; refine (Arith.within _ _ _ _).mono ?_; rintro e w' ⟨rfl, rfl⟩) | (go_at_call 44; refine (Root.impl_root _ _ HQ.out).mono ?_; rintro e w' ⟨rfl, rfl⟩))
          go_ret
          exact ⟨ret_int en.out.symm, rfl⟩

/-- The distance of the horizon. -/
def horizon (h : Int) : Int := if inB h 0 180000 = true then rootOf (16989334 * h / 10) else 0
theorem horizon_yes {h : Int} (k : inB h 0 180000 = true) : horizon h = rootOf (16989334 * h / 10) := if_pos k
theorem horizon_no {h : Int} (k : inB h 0 180000 = false) : horizon h = 0 := by unfold horizon; rw [k]; rfl
end Go.Proofs.Ytmmhekakihimfaa.Earth
