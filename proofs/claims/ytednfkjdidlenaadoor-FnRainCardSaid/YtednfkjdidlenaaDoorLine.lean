
/-
  What the line through two points of the model and of the program returns. Conditions: each theorem's own.
-/
import Derived.Test.YtednfkjdidlenaaDoorProg
import Derived.Test.YtednfkjdidlenaaDoorArith
import Derived.WalkKit
import Derived.Lib.Hide
import Derived.IntWalk
import Derived.Handy
namespace Go.Proofs.YtednfkjdidlenaaDoor.Line
open Go.RowKit
open Plain
open Arith (ret_bool ret_int)

theorem prod_bd {a b : Int} (a0 : -2000000 ≤ a) (a1 : a ≤ 2000000) (b0 : 0 ≤ b) (b1 : b ≤ 2000000) : -4000000000000 ≤ a * b ∧ a * b ≤ 4000000000000 := by
  have h1 : a * b ≤ 2000000 * b := Int.mul_le_mul_of_nonneg_right a1 b0
  have h2 : -2000000 * b ≤ a * b := Int.mul_le_mul_of_nonneg_right a0 b0
  omega
/-- The line. -/
def line (x0 y0 x1 y1 x : Int) : Int := if x ≤ x0 ∨ x1 ≤ x0 then y0 else if x1 ≤ x then y1 else y0 + near ((y1 - y0) * (x - x0)) (x1 - x0)
theorem line_first {x0 y0 x1 y1 x : Int} (h : x ≤ x0 ∨ x1 ≤ x0) : line x0 y0 x1 y1 x = y0 := if_pos h
theorem line_last {x0 y0 x1 y1 x : Int} (h1 : x0 < x) (h2 : x0 < x1) (h : x1 ≤ x) : line x0 y0 x1 y1 x = y1 := by
  unfold line; rw [if_neg (by omega), if_pos h]
theorem line_mid {x0 y0 x1 y1 x : Int} (h1 : x0 < x) (h : x < x1) : line x0 y0 x1 y1 x = y0 + near ((y1 - y0) * (x - x0)) (x1 - x0) := by
  unfold line; rw [if_neg (by omega), if_neg (by omega)]
/-- What Between returns. -/
def between (x0 y0 x1 y1 x : Int) : Int := if (inB x0 (-1000000) 1000000 && inB y0 (-1000000) 1000000 && inB x1 (-1000000) 1000000 && inB y1 (-1000000) 1000000) = true then line x0 y0 x1 y1 x else 0
theorem between_yes {x0 y0 x1 y1 x : Int} (a : inB x0 (-1000000) 1000000 = true) (b : inB y0 (-1000000) 1000000 = true) (c : inB x1 (-1000000) 1000000 = true) (d : inB y1 (-1000000) 1000000 = true) : between x0 y0 x1 y1 x = line x0 y0 x1 y1 x := by
  unfold between; rw [a, b, c, d]; rfl
theorem between_no {x0 y0 x1 y1 x : Int} (h : inB x0 (-1000000) 1000000 = false ∨ inB y0 (-1000000) 1000000 = false ∨ inB x1 (-1000000) 1000000 = false ∨ inB y1 (-1000000) 1000000 = false) : between x0 y0 x1 y1 x = 0 := by
  unfold between; rw [if_neg]; rcases h with h | h | h | h <;> simp [h]

theorem impl_yes (x0 y0 x1 y1 x : Int) (w : World) (hx0 : inB x0 (-1000000) 1000000 = true) (hy0 : inB y0 (-1000000) 1000000 = true) (hx1 : inB x1 (-1000000) 1000000 = true) (hy1 : inB y1 (-1000000) 1000000 = true) (a0 : -1000000 ≤ x0) (a1 : x0 ≤ 1000000) (b0 : -1000000 ≤ y0) (b1 : y0 ≤ 1000000) (c0 : -1000000 ≤ x1) (c1 : x1 ≤ 1000000) (d0 : -1000000 ≤ y1) (d1 : y1 ≤ 1000000) :
    Calls Tryd.prog 47 #[.int .i64 x0, .int .i64 y0, .int .i64 x1, .int .i64 y1, .int .i64 x] w fun e w' => e = .returned (.int .i64 (line x0 y0 x1 y1 x)) ∧ ∃ n, w' = w.drewN n := by
  by_cases h1 : x ≤ x0
  · have en := Lib.hid (line_first (y0 := y0) (y1 := y1) (x1 := x1) (.inl h1))
    have i0 : ∀ w, (Instr.index 74 (.agg #[.int .i64 x0, .int .i64 y0, .int .i64 x1, .int .i64 y1]) (.int .i64 0)).run Tryd.prog w = .ok (.int .i64 x0) w := fun _ => by kernel_rfl
    have i1 : ∀ w, (Instr.index 74 (.agg #[.int .i64 x0, .int .i64 y0, .int .i64 x1, .int .i64 y1]) (.int .i64 1)).run Tryd.prog w = .ok (.int .i64 y0) w := fun _ => by kernel_rfl
    have i2 : ∀ w, (Instr.index 74 (.agg #[.int .i64 x0, .int .i64 y0, .int .i64 x1, .int .i64 y1]) (.int .i64 2)).run Tryd.prog w = .ok (.int .i64 x1) w := fun _ => by kernel_rfl
    have i3 : ∀ w, (Instr.index 74 (.agg #[.int .i64 x0, .int .i64 y0, .int .i64 x1, .int .i64 y1]) (.int .i64 3)).run Tryd.prog w = .ok (.int .i64 y1) w := fun _ => by kernel_rfl
    go_enter Tryd.func47, Tryd.ntmps47
    go_wp2_with (go_at_call 30; refine (Arith.within _ _ _ _).mono ?_; rintro e w' ⟨rfl, rfl⟩)
    refine wp_loop_rounds 5 ?_
    rw [rounds_succ]
    go_wp2_with (go_at_call 30; refine (Arith.within _ _ _ _).mono ?_; rintro e w' ⟨rfl, rfl⟩)
    rw [rounds_succ]
    go_wp2_with (go_at_call 30; refine (Arith.within _ _ _ _).mono ?_; rintro e w' ⟨rfl, rfl⟩)
    rw [rounds_succ]
    go_wp2_with (go_at_call 30; refine (Arith.within _ _ _ _).mono ?_; rintro e w' ⟨rfl, rfl⟩)
    rw [rounds_succ]
    go_wp2_with (go_at_call 30; refine (Arith.within _ _ _ _).mono ?_; rintro e w' ⟨rfl, rfl⟩)
    rw [rounds_succ]
    go_wp2_with (go_at_call 30; refine (Arith.within _ _ _ _).mono ?_; rintro e w' ⟨rfl, rfl⟩)
    go_ret
    exact ⟨ret_int en.out.symm, 0, rfl⟩
  · by_cases h2 : x1 ≤ x0
    · have en := Lib.hid (line_first (y0 := y0) (y1 := y1) (x := x) (.inr h2))
      have i0 : ∀ w, (Instr.index 74 (.agg #[.int .i64 x0, .int .i64 y0, .int .i64 x1, .int .i64 y1]) (.int .i64 0)).run Tryd.prog w = .ok (.int .i64 x0) w := fun _ => by kernel_rfl
      have i1 : ∀ w, (Instr.index 74 (.agg #[.int .i64 x0, .int .i64 y0, .int .i64 x1, .int .i64 y1]) (.int .i64 1)).run Tryd.prog w = .ok (.int .i64 y0) w := fun _ => by kernel_rfl
      have i2 : ∀ w, (Instr.index 74 (.agg #[.int .i64 x0, .int .i64 y0, .int .i64 x1, .int .i64 y1]) (.int .i64 2)).run Tryd.prog w = .ok (.int .i64 x1) w := fun _ => by kernel_rfl
      have i3 : ∀ w, (Instr.index 74 (.agg #[.int .i64 x0, .int .i64 y0, .int .i64 x1, .int .i64 y1]) (.int .i64 3)).run Tryd.prog w = .ok (.int .i64 y1) w := fun _ => by kernel_rfl
      go_enter Tryd.func47, Tryd.ntmps47
      go_wp2_with (go_at_call 30; refine (Arith.within _ _ _ _).mono ?_; rintro e w' ⟨rfl, rfl⟩)
      refine wp_loop_rounds 5 ?_
      rw [rounds_succ]
      go_wp2_with (go_at_call 30; refine (Arith.within _ _ _ _).mono ?_; rintro e w' ⟨rfl, rfl⟩)
      rw [rounds_succ]
      go_wp2_with (go_at_call 30; refine (Arith.within _ _ _ _).mono ?_; rintro e w' ⟨rfl, rfl⟩)
      rw [rounds_succ]
      go_wp2_with (go_at_call 30; refine (Arith.within _ _ _ _).mono ?_; rintro e w' ⟨rfl, rfl⟩)
      rw [rounds_succ]
      go_wp2_with (go_at_call 30; refine (Arith.within _ _ _ _).mono ?_; rintro e w' ⟨rfl, rfl⟩)
      rw [rounds_succ]
      go_wp2_with (go_at_call 30; refine (Arith.within _ _ _ _).mono ?_; rintro e w' ⟨rfl, rfl⟩)
      go_ret
      exact ⟨ret_int en.out.symm, 0, rfl⟩
    · by_cases h3 : x1 ≤ x
      · have en := Lib.hid (line_last (x0 := x0) (y0 := y0) (y1 := y1) (by omega) (by omega) h3)
        have i0 : ∀ w, (Instr.index 74 (.agg #[.int .i64 x0, .int .i64 y0, .int .i64 x1, .int .i64 y1]) (.int .i64 0)).run Tryd.prog w = .ok (.int .i64 x0) w := fun _ => by kernel_rfl
        have i1 : ∀ w, (Instr.index 74 (.agg #[.int .i64 x0, .int .i64 y0, .int .i64 x1, .int .i64 y1]) (.int .i64 1)).run Tryd.prog w = .ok (.int .i64 y0) w := fun _ => by kernel_rfl
        have i2 : ∀ w, (Instr.index 74 (.agg #[.int .i64 x0, .int .i64 y0, .int .i64 x1, .int .i64 y1]) (.int .i64 2)).run Tryd.prog w = .ok (.int .i64 x1) w := fun _ => by kernel_rfl
        have i3 : ∀ w, (Instr.index 74 (.agg #[.int .i64 x0, .int .i64 y0, .int .i64 x1, .int .i64 y1]) (.int .i64 3)).run Tryd.prog w = .ok (.int .i64 y1) w := fun _ => by kernel_rfl
        go_enter Tryd.func47, Tryd.ntmps47
        go_wp2_with (go_at_call 30; refine (Arith.within _ _ _ _).mono ?_; rintro e w' ⟨rfl, rfl⟩)
        refine wp_loop_rounds 5 ?_
        rw [rounds_succ]
        go_wp2_with (go_at_call 30; refine (Arith.within _ _ _ _).mono ?_; rintro e w' ⟨rfl, rfl⟩)
        rw [rounds_succ]
        go_wp2_with (go_at_call 30; refine (Arith.within _ _ _ _).mono ?_; rintro e w' ⟨rfl, rfl⟩)
        rw [rounds_succ]
        go_wp2_with (go_at_call 30; refine (Arith.within _ _ _ _).mono ?_; rintro e w' ⟨rfl, rfl⟩)
        rw [rounds_succ]
        go_wp2_with (go_at_call 30; refine (Arith.within _ _ _ _).mono ?_; rintro e w' ⟨rfl, rfl⟩)
        rw [rounds_succ]
        go_wp2_with (go_at_call 30; refine (Arith.within _ _ _ _).mono ?_; rintro e w' ⟨rfl, rfl⟩)
        go_ret
        exact ⟨ret_int en.out.symm, 0, rfl⟩
      · obtain ⟨p0, p1⟩ := prod_bd (a := y1 - y0) (b := x - x0) (by omega) (by omega) (by omega) (by omega)
        obtain ⟨q0, q1⟩ := near_le ((y1 - y0) * (x - x0)) (x1 - x0) (by omega) 4000000000000 p0 p1
        have en := Lib.hid (line_mid (x0 := x0) (y0 := y0) (y1 := y1) (by omega) (by omega : x < x1))
        have i0 : ∀ w, (Instr.index 74 (.agg #[.int .i64 x0, .int .i64 y0, .int .i64 x1, .int .i64 y1]) (.int .i64 0)).run Tryd.prog w = .ok (.int .i64 x0) w := fun _ => by kernel_rfl
        have i1 : ∀ w, (Instr.index 74 (.agg #[.int .i64 x0, .int .i64 y0, .int .i64 x1, .int .i64 y1]) (.int .i64 1)).run Tryd.prog w = .ok (.int .i64 y0) w := fun _ => by kernel_rfl
        have i2 : ∀ w, (Instr.index 74 (.agg #[.int .i64 x0, .int .i64 y0, .int .i64 x1, .int .i64 y1]) (.int .i64 2)).run Tryd.prog w = .ok (.int .i64 x1) w := fun _ => by kernel_rfl
        have i3 : ∀ w, (Instr.index 74 (.agg #[.int .i64 x0, .int .i64 y0, .int .i64 x1, .int .i64 y1]) (.int .i64 3)).run Tryd.prog w = .ok (.int .i64 y1) w := fun _ => by kernel_rfl
        go_enter Tryd.func47, Tryd.ntmps47
        go_wp2_with (go_at_call 30; refine (Arith.within _ _ _ _).mono ?_; rintro e w' ⟨rfl, rfl⟩)
        refine wp_loop_rounds 5 ?_
        rw [rounds_succ]
        go_wp2_with (first | (go_at_call 30; refine (Arith.within _ _ _ _).mono ?_; rintro e w' ⟨rfl, rfl⟩) | (go_at_call 27; refine (Arith.nearest _ _ _ (by omega) (by omega) (by omega) (by omega) (by omega)).mono ?_; rintro e w' ⟨rfl, n, rfl⟩))
        rw [rounds_succ]
        go_wp2_with (first | (go_at_call 30; refine (Arith.within _ _ _ _).mono ?_; rintro e w' ⟨rfl, rfl⟩) | (go_at_call 27; refine (Arith.nearest _ _ _ (by omega) (by omega) (by omega) (by omega) (by omega)).mono ?_; rintro e w' ⟨rfl, n, rfl⟩))
        rw [rounds_succ]
        go_wp2_with (first | (go_at_call 30; refine (Arith.within _ _ _ _).mono ?_; rintro e w' ⟨rfl, rfl⟩) | (go_at_call 27; refine (Arith.nearest _ _ _ (by omega) (by omega) (by omega) (by omega) (by omega)).mono ?_; rintro e w' ⟨rfl, n, rfl⟩))
        rw [rounds_succ]
        go_wp2_with (first | (go_at_call 30; refine (Arith.within _ _ _ _).mono ?_; rintro e w' ⟨rfl, rfl⟩) | (go_at_call 27; refine (Arith.nearest _ _ _ (by omega) (by omega) (by omega) (by omega) (by omega)).mono ?_; rintro e w' ⟨rfl, n, rfl⟩))
        rw [rounds_succ]
        go_wp2_with (first | (go_at_call 30; refine (Arith.within _ _ _ _).mono ?_; rintro e w' ⟨rfl, rfl⟩) | (go_at_call 27; refine (Arith.nearest _ _ _ (by omega) (by omega) (by omega) (by omega) (by omega)).mono ?_; rintro e w' ⟨rfl, n, rfl⟩))
        go_ret
        exact ⟨ret_int en.out.symm, _, rfl⟩

theorem impl_between (x0 y0 x1 y1 x : Int) (w : World) :
    Calls Tryd.prog 47 #[.int .i64 x0, .int .i64 y0, .int .i64 x1, .int .i64 y1, .int .i64 x] w fun e w' => e = .returned (.int .i64 (between x0 y0 x1 y1 x)) ∧ ∃ n, w' = w.drewN n := by
  cases hx0 : inB x0 (-1000000) 1000000 with
  | false =>
    have en := Lib.hid (between_no (x := x) (y0 := y0) (x1 := x1) (y1 := y1) (.inl hx0))
    have i0 : ∀ w, (Instr.index 74 (.agg #[.int .i64 x0, .int .i64 y0, .int .i64 x1, .int .i64 y1]) (.int .i64 0)).run Tryd.prog w = .ok (.int .i64 x0) w := fun _ => by kernel_rfl
    have i1 : ∀ w, (Instr.index 74 (.agg #[.int .i64 x0, .int .i64 y0, .int .i64 x1, .int .i64 y1]) (.int .i64 1)).run Tryd.prog w = .ok (.int .i64 y0) w := fun _ => by kernel_rfl
    have i2 : ∀ w, (Instr.index 74 (.agg #[.int .i64 x0, .int .i64 y0, .int .i64 x1, .int .i64 y1]) (.int .i64 2)).run Tryd.prog w = .ok (.int .i64 x1) w := fun _ => by kernel_rfl
    have i3 : ∀ w, (Instr.index 74 (.agg #[.int .i64 x0, .int .i64 y0, .int .i64 x1, .int .i64 y1]) (.int .i64 3)).run Tryd.prog w = .ok (.int .i64 y1) w := fun _ => by kernel_rfl
    go_enter Tryd.func47, Tryd.ntmps47
    go_wp2_with (go_at_call 30; refine (Arith.within _ _ _ _).mono ?_; rintro e w' ⟨rfl, rfl⟩)
    refine wp_loop_rounds 1 ?_
    rw [rounds_succ]
    go_wp2_with (go_at_call 30; refine (Arith.within _ _ _ _).mono ?_; rintro e w' ⟨rfl, rfl⟩)
    go_ret
    exact ⟨ret_int en.out.symm, 0, rfl⟩
  | true =>
    cases hy0 : inB y0 (-1000000) 1000000 with
    | false =>
      have en := Lib.hid (between_no (x := x) (x0 := x0) (x1 := x1) (y1 := y1) (.inr (.inl hy0)))
      have i0 : ∀ w, (Instr.index 74 (.agg #[.int .i64 x0, .int .i64 y0, .int .i64 x1, .int .i64 y1]) (.int .i64 0)).run Tryd.prog w = .ok (.int .i64 x0) w := fun _ => by kernel_rfl
      have i1 : ∀ w, (Instr.index 74 (.agg #[.int .i64 x0, .int .i64 y0, .int .i64 x1, .int .i64 y1]) (.int .i64 1)).run Tryd.prog w = .ok (.int .i64 y0) w := fun _ => by kernel_rfl
      have i2 : ∀ w, (Instr.index 74 (.agg #[.int .i64 x0, .int .i64 y0, .int .i64 x1, .int .i64 y1]) (.int .i64 2)).run Tryd.prog w = .ok (.int .i64 x1) w := fun _ => by kernel_rfl
      have i3 : ∀ w, (Instr.index 74 (.agg #[.int .i64 x0, .int .i64 y0, .int .i64 x1, .int .i64 y1]) (.int .i64 3)).run Tryd.prog w = .ok (.int .i64 y1) w := fun _ => by kernel_rfl
      go_enter Tryd.func47, Tryd.ntmps47
      go_wp2_with (go_at_call 30; refine (Arith.within _ _ _ _).mono ?_; rintro e w' ⟨rfl, rfl⟩)
      refine wp_loop_rounds 2 ?_
      rw [rounds_succ]
      go_wp2_with (go_at_call 30; refine (Arith.within _ _ _ _).mono ?_; rintro e w' ⟨rfl, rfl⟩)
      rw [rounds_succ]
      go_wp2_with (go_at_call 30; refine (Arith.within _ _ _ _).mono ?_; rintro e w' ⟨rfl, rfl⟩)
      go_ret
      exact ⟨ret_int en.out.symm, 0, rfl⟩
    | true =>
      cases hx1 : inB x1 (-1000000) 1000000 with
      | false =>
        have en := Lib.hid (between_no (x := x) (x0 := x0) (y0 := y0) (y1 := y1) (.inr (.inr (.inl hx1))))
        have i0 : ∀ w, (Instr.index 74 (.agg #[.int .i64 x0, .int .i64 y0, .int .i64 x1, .int .i64 y1]) (.int .i64 0)).run Tryd.prog w = .ok (.int .i64 x0) w := fun _ => by kernel_rfl
        have i1 : ∀ w, (Instr.index 74 (.agg #[.int .i64 x0, .int .i64 y0, .int .i64 x1, .int .i64 y1]) (.int .i64 1)).run Tryd.prog w = .ok (.int .i64 y0) w := fun _ => by kernel_rfl
        have i2 : ∀ w, (Instr.index 74 (.agg #[.int .i64 x0, .int .i64 y0, .int .i64 x1, .int .i64 y1]) (.int .i64 2)).run Tryd.prog w = .ok (.int .i64 x1) w := fun _ => by kernel_rfl
        have i3 : ∀ w, (Instr.index 74 (.agg #[.int .i64 x0, .int .i64 y0, .int .i64 x1, .int .i64 y1]) (.int .i64 3)).run Tryd.prog w = .ok (.int .i64 y1) w := fun _ => by kernel_rfl
        go_enter Tryd.func47, Tryd.ntmps47
        go_wp2_with (go_at_call 30; refine (Arith.within _ _ _ _).mono ?_; rintro e w' ⟨rfl, rfl⟩)
        refine wp_loop_rounds 3 ?_
        rw [rounds_succ]
        go_wp2_with (go_at_call 30; refine (Arith.within _ _ _ _).mono ?_; rintro e w' ⟨rfl, rfl⟩)
        rw [rounds_succ]
        go_wp2_with (go_at_call 30; refine (Arith.within _ _ _ _).mono ?_; rintro e w' ⟨rfl, rfl⟩)
        rw [rounds_succ]
        go_wp2_with (go_at_call 30; refine (Arith.within _ _ _ _).mono ?_; rintro e w' ⟨rfl, rfl⟩)
        go_ret
        exact ⟨ret_int en.out.symm, 0, rfl⟩
      | true =>
        cases hy1 : inB y1 (-1000000) 1000000 with
        | false =>
          have en := Lib.hid (between_no (x := x) (x0 := x0) (y0 := y0) (x1 := x1) (.inr (.inr (.inr hy1))))
          have i0 : ∀ w, (Instr.index 74 (.agg #[.int .i64 x0, .int .i64 y0, .int .i64 x1, .int .i64 y1]) (.int .i64 0)).run Tryd.prog w = .ok (.int .i64 x0) w := fun _ => by kernel_rfl
          have i1 : ∀ w, (Instr.index 74 (.agg #[.int .i64 x0, .int .i64 y0, .int .i64 x1, .int .i64 y1]) (.int .i64 1)).run Tryd.prog w = .ok (.int .i64 y0) w := fun _ => by kernel_rfl
          have i2 : ∀ w, (Instr.index 74 (.agg #[.int .i64 x0, .int .i64 y0, .int .i64 x1, .int .i64 y1]) (.int .i64 2)).run Tryd.prog w = .ok (.int .i64 x1) w := fun _ => by kernel_rfl
          have i3 : ∀ w, (Instr.index 74 (.agg #[.int .i64 x0, .int .i64 y0, .int .i64 x1, .int .i64 y1]) (.int .i64 3)).run Tryd.prog w = .ok (.int .i64 y1) w := fun _ => by kernel_rfl
          go_enter Tryd.func47, Tryd.ntmps47
          go_wp2_with (go_at_call 30; refine (Arith.within _ _ _ _).mono ?_; rintro e w' ⟨rfl, rfl⟩)
          refine wp_loop_rounds 4 ?_
          rw [rounds_succ]
          go_wp2_with (go_at_call 30; refine (Arith.within _ _ _ _).mono ?_; rintro e w' ⟨rfl, rfl⟩)
          rw [rounds_succ]
          go_wp2_with (go_at_call 30; refine (Arith.within _ _ _ _).mono ?_; rintro e w' ⟨rfl, rfl⟩)
          rw [rounds_succ]
          go_wp2_with (go_at_call 30; refine (Arith.within _ _ _ _).mono ?_; rintro e w' ⟨rfl, rfl⟩)
          rw [rounds_succ]
          go_wp2_with (go_at_call 30; refine (Arith.within _ _ _ _).mono ?_; rintro e w' ⟨rfl, rfl⟩)
          go_ret
          exact ⟨ret_int en.out.symm, 0, rfl⟩
        | true =>
          have en := Lib.hid (between_yes (x := x) hx0 hy0 hx1 hy1)
          obtain ⟨a0, a1⟩ := of_inB hx0
          obtain ⟨b0, b1⟩ := of_inB hy0
          obtain ⟨c0, c1⟩ := of_inB hx1
          obtain ⟨d0, d1⟩ := of_inB hy1
          exact (impl_yes x0 y0 x1 y1 x w hx0 hy0 hx1 hy1 a0 a1 b0 b1 c0 c1 d0 d1).mono fun e w' ⟨he, hw⟩ => ⟨by rw [he, en.out], hw⟩
end Go.Proofs.YtednfkjdidlenaaDoor.Line
