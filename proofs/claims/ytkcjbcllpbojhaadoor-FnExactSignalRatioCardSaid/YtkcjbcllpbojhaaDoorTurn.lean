
/-
  What the numbers of degrees, differences and angles are, in the model and in the program. No condition but that a number fits its kind.
-/
import Derived.Test.YtkcjbcllpbojhaaDoorProg
import Derived.Test.YtkcjbcllpbojhaaDoorPlain
import Derived.Test.YtkcjbcllpbojhaaDoorSin
import Derived.Test.YtkcjbcllpbojhaaDoorOn
import Derived.Lib.Hide
import Derived.IntWalk
import Derived.Deep.QuietTactic
import Derived.BigQuiet
namespace Go.Proofs.YtkcjbcllpbojhaaDoor.Turn
open Go.RowKit
open Plain

def gmax (a b : Int) : Int := if a < b then b else a
def gmin (a b : Int) : Int := if b < a then b else a
def smin (a b : Int) : Int := if a < b then a else b
theorem smin_lt {a b : Int} (h : a < b) : smin a b = a := if_pos h
theorem smin_ge {a b : Int} (h : ¬ a < b) : smin a b = b := if_neg h
theorem gmax_gt {a b : Int} (h : a < b) : gmax a b = b := if_pos h
theorem gmax_le {a b : Int} (h : ¬ a < b) : gmax a b = a := if_neg h
theorem gmin_gt {a b : Int} (h : b < a) : gmin a b = b := if_pos h
theorem gmin_le {a b : Int} (h : ¬ b < a) : gmin a b = a := if_neg h
theorem gap_mm (a b : Int) : gmax a b - gmin a b = gap a b := by unfold gmax gmin gap; split <;> split <;> split <;> omega
theorem mm_bd (a b : Int) : (a ≤ gmax a b ∧ b ≤ gmax a b ∧ gmin a b ≤ a ∧ gmin a b ≤ b) ∧ (gmax a b = a ∨ gmax a b = b) ∧ (gmin a b = a ∨ gmin a b = b) := by unfold gmax gmin; split <;> split <;> omega

theorem spec_min (a b : Int) (w : World) :
    Calls Tryd.prog 53 #[.int .i64 a, .int .i64 b] w fun e w' => e = .returned (.int .i64 (smin a b)) ∧ w = w' := by
  by_cases h : a < b
  · rw [smin_lt h]
    go_enter Tryd.func53, Tryd.ntmps53
    go_wp2
    go_ret
    exact ⟨rfl, rfl⟩
  · rw [smin_ge h]
    go_enter Tryd.func53, Tryd.ntmps53
    go_wp2
    go_ret
    exact ⟨rfl, rfl⟩
theorem impl_greatest (a b : Int) (w : World) :
    Calls Tryd.prog 58 #[.int .i64 a, .int .i64 b] w fun e w' => e = .returned (.int .i64 (gmax a b)) ∧ w = w' := by
  by_cases h : a < b
  · rw [gmax_gt h]
    go_enter Tryd.func58, Tryd.ntmps58
    go_wp2
    go_ret
    exact ⟨rfl, rfl⟩
  · rw [gmax_le h]
    go_enter Tryd.func58, Tryd.ntmps58
    go_wp2
    go_ret
    exact ⟨rfl, rfl⟩
theorem impl_least (a b : Int) (w : World) :
    Calls Tryd.prog 75 #[.int .i64 a, .int .i64 b] w fun e w' => e = .returned (.int .i64 (gmin a b)) ∧ w = w' := by
  by_cases h : b < a
  · rw [gmin_gt h]
    go_enter Tryd.func75, Tryd.ntmps75
    go_wp2
    go_ret
    exact ⟨rfl, rfl⟩
  · rw [gmin_le h]
    go_enter Tryd.func75, Tryd.ntmps75
    go_wp2
    go_ret
    exact ⟨rfl, rfl⟩
theorem impl_bounded (v lo hi : Int) (w : World) :
    Calls Tryd.prog 59 #[.int .i64 v, .int .i64 lo, .int .i64 hi] w fun e w' => e = .returned (.int .i64 (gmax lo (gmin v hi))) ∧ w = w' := by
  go_enter Tryd.func59, Tryd.ntmps59
  go_wp2_with (first | (go_at_call 75; refine (impl_least _ _ _).mono ?_; rintro e w' ⟨rfl, rfl⟩) | (go_at_call 58; refine (impl_greatest _ _ _).mono ?_; rintro e w' ⟨rfl, rfl⟩))
  go_ret
  exact ⟨rfl, rfl⟩
theorem impl_difference (a b : Int) (w : World) (a0 : -4000000 ≤ a) (a1 : a ≤ 4000000) (b0 : -4000000 ≤ b) (b1 : b ≤ 4000000) :
    Calls Tryd.prog 57 #[.int .i64 a, .int .i64 b] w fun e w' => e = .returned (.int .i64 (gap a b)) ∧ w = w' := by
  obtain ⟨⟨m1, m2, m3, m4⟩, m5, m6⟩ := mm_bd a b
  have M1 : -4000000 ≤ gmax a b ∧ gmax a b ≤ 4000000 := by omega
  have M2 : -4000000 ≤ gmin a b ∧ gmin a b ≤ 4000000 := by omega
  clear m1 m2 m3 m4 m5 m6
  obtain ⟨M1, M3⟩ := M1
  obtain ⟨M2, M4⟩ := M2
  go_enter Tryd.func57, Tryd.ntmps57
  go_wp2_with (first | (go_at_call 58; refine (impl_greatest _ _ _).mono ?_; rintro e w' ⟨rfl, rfl⟩) | (go_at_call 75; refine (impl_least _ _ _).mono ?_; rintro e w' ⟨rfl, rfl⟩))
  go_ret
  exact ⟨ret_int (gap_mm a b), rfl⟩
theorem turn_le {x : Int} (h : x ≤ 360 - x) : gmin x (360 - x) = x := gmin_le (by omega)
theorem gmin_turn (a b : Int) : gmin (gap (deg a) (deg b)) (360 - gap (deg a) (deg b)) = turn a b := by
  unfold gmin turn; split <;> split <;> omega
end Go.Proofs.YtkcjbcllpbojhaaDoor.Turn
