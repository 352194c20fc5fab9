
/-
  What the points' validity, their ways and their distances are, in the model and in the program. No condition.
-/
import Derived.Test.YtmpeogmlnajliaaProg
import Derived.Test.YtmpeogmlnajliaaPlain
import Derived.Test.YtmpeogmlnajliaaOn
import Derived.Test.YtmpeogmlnajliaaArith
namespace Go.Proofs.Ytmpeogmlnajliaa.Point
open Go.RowKit
open Plain

def okB (x y : Int) : Bool := inB x 0 200000 && inB y 0 200000
theorem okB_no1 {x y : Int} (h : inB x 0 200000 = false) : okB x y = false := by unfold okB; rw [h]; rfl
theorem okB_two {x y : Int} (h : inB x 0 200000 = true) : okB x y = inB y 0 200000 := by unfold okB; rw [h]; rfl
theorem of_okB {x y : Int} (h : okB x y = true) : 0 ≤ x ∧ x ≤ 200000 ∧ 0 ≤ y ∧ y ≤ 200000 := by
  unfold okB at h
  rw [Bool.and_eq_true] at h
  have h1 := of_inB h.1
  have h2 := of_inB h.2
  omega

theorem impl_ok (x y : Int) (w : World) :
    Calls Try.prog 53 #[.agg #[.int .i64 x, .int .i64 y]] w fun e w' => e = .returned (.bool (okB x y)) ∧ On w w' := by
  cases h1 : inB x 0 200000 with
  | false =>
    have H := Lib.hid (okB_no1 (y := y) h1)
    go_enter Try.func53, Try.ntmps53
    go_wp2_with (go_at_call 52; refine (Arith.within _ _ _ _).mono ?_; rintro e w' ⟨rfl, rfl⟩)
    go_ret
    exact ⟨ret_bool H.out.symm, by repeat (first | exact On.refl _ | apply On.alloc)⟩
  | true =>
    have H := Lib.hid (okB_two (y := y) h1)
    go_enter Try.func53, Try.ntmps53
    go_wp2_with (go_at_call 52; refine (Arith.within _ _ _ _).mono ?_; rintro e w' ⟨rfl, rfl⟩)
    go_ret
    exact ⟨ret_bool H.out.symm, by repeat (first | exact On.refl _ | apply On.alloc)⟩
end Go.Proofs.Ytmpeogmlnajliaa.Point
