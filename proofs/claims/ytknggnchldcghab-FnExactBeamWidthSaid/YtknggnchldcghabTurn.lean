
/-
  What the numbers of degrees, differences and angles are, in the model and in the program. No condition but that a number fits its kind.
-/
import Derived.Test.YtknggnchldcghabProg
import Derived.Test.YtknggnchldcghabPlain
import Derived.Test.YtknggnchldcghabSin
import Derived.Test.YtknggnchldcghabOn
import Derived.Lib.Hide
import Derived.IntWalk
import Derived.Deep.QuietTactic
import Derived.BigQuiet
namespace Go.Proofs.Ytknggnchldcghab.Turn
open Go.RowKit
open Plain

def gmax (a b : Int) : Int := if a < b then b else a
def gmin (a b : Int) : Int := if b < a then b else a
def smin (a b : Int) : Int := if a < b then a else b
theorem smin_lt {a b : Int} (h : a < b) : smin a b = a := if_pos h
theorem smin_ge {a b : Int} (h : ¬ a < b) : smin a b = b := if_neg h
theorem gmax_gt {a b : Int} (h : a < b) : gmax a b = b := if_pos h
theorem gmax_le {a b : Int} (h : ¬ a < b) : gmax a b = a := if_neg h
theorem gmin_gt {a b : Int} (h : b < a) : gmin a b = b := if_pos h
theorem gmin_le {a b : Int} (h : ¬ b < a) : gmin a b = a := if_neg h
theorem gap_mm (a b : Int) : gmax a b - gmin a b = gap a b := by unfold gmax gmin gap; split <;> split <;> split <;> omega
theorem mm_bd (a b : Int) : (a ≤ gmax a b ∧ b ≤ gmax a b ∧ gmin a b ≤ a ∧ gmin a b ≤ b) ∧ (gmax a b = a ∨ gmax a b = b) ∧ (gmin a b = a ∨ gmin a b = b) := by unfold gmax gmin; split <;> split <;> omega

theorem spec_min (a b : Int) (w : World) :
    Calls Try.prog 84 #[.int .i64 a, .int .i64 b] w fun e w' => e = .returned (.int .i64 (smin a b)) ∧ w = w' := by
  by_cases h : a < b
  · rw [smin_lt h]
    go_enter Try.func84, Try.ntmps84
    go_wp2
    go_ret
    exact ⟨rfl, rfl⟩
  · rw [smin_ge h]
    go_enter Try.func84, Try.ntmps84
    go_wp2
    go_ret
    exact ⟨rfl, rfl⟩
theorem impl_greatest (a b : Int) (w : World) :
    Calls Try.prog 67 #[.int .i64 a, .int .i64 b] w fun e w' => e = .returned (.int .i64 (gmax a b)) ∧ w = w' := by
  by_cases h : a < b
  · rw [gmax_gt h]
    go_enter Try.func67, Try.ntmps67
    go_wp2
    go_ret
    exact ⟨rfl, rfl⟩
  · rw [gmax_le h]
    go_enter Try.func67, Try.ntmps67
    go_wp2
    go_ret
    exact ⟨rfl, rfl⟩
theorem impl_least (a b : Int) (w : World) :
    Calls Try.prog 68 #[.int .i64 a, .int .i64 b] w fun e w' => e = .returned (.int .i64 (gmin a b)) ∧ w = w' := by
  by_cases h : b < a
  · rw [gmin_gt h]
    go_enter Try.func68, Try.ntmps68
    go_wp2
    go_ret
    exact ⟨rfl, rfl⟩
  · rw [gmin_le h]
    go_enter Try.func68, Try.ntmps68
    go_wp2
    go_ret
    exact ⟨rfl, rfl⟩
theorem impl_difference (a b : Int) (w : World) (a0 : -1000000 ≤ a) (a1 : a ≤ 1000000) (b0 : -1000000 ≤ b) (b1 : b ≤ 1000000) :
    Calls Try.prog 94 #[.int .i64 a, .int .i64 b] w fun e w' => e = .returned (.int .i64 (gap a b)) ∧ w = w' := by
  obtain ⟨⟨m1, m2, m3, m4⟩, m5, m6⟩ := mm_bd a b
  have M1 : -1000000 ≤ gmax a b ∧ gmax a b ≤ 1000000 := by omega
  have M2 : -1000000 ≤ gmin a b ∧ gmin a b ≤ 1000000 := by omega
  clear m1 m2 m3 m4 m5 m6
  obtain ⟨M1, M3⟩ := M1
  obtain ⟨M2, M4⟩ := M2
  go_enter Try.func94, Try.ntmps94
  go_wp2_with (first | (go_at_call 67; refine (impl_greatest _ _ _).mono ?_; rintro e w' ⟨rfl, rfl⟩) | (go_at_call 68; refine (impl_least _ _ _).mono ?_; rintro e w' ⟨rfl, rfl⟩))
  go_ret
  exact ⟨ret_int (gap_mm a b), rfl⟩
theorem spec_degrees (d : Int) (w : World) :
    Calls Try.prog 88 #[.int .i64 d] w fun e w' => e = .returned (.int .i64 (deg d : Nat)) ∧ w = w' := by
  obtain ⟨t1, t2⟩ := tmod_bd d
  go_enter Try.func88, Try.ntmps88
  go_wp2
  go_ret
  exact ⟨ret_int (deg_go d), rfl⟩
theorem impl_onCircle (d : Int) (w : World) :
    Calls Try.prog 91 #[.int .i64 d] w fun e w' => e = .returned (.int .i64 (deg d : Nat)) ∧ w = w' := by
  obtain ⟨t1, t2⟩ := tmod_bd d
  go_enter Try.func91, Try.ntmps91
  go_wp2
  go_ret
  exact ⟨ret_int (deg_go d), rfl⟩
theorem turn_le {x : Int} (h : x ≤ 360 - x) : gmin x (360 - x) = x := gmin_le (by omega)
theorem gmin_turn (a b : Int) : gmin (gap (deg a) (deg b)) (360 - gap (deg a) (deg b)) = turn a b := by
  unfold gmin turn; split <;> split <;> omega
theorem impl_turn (a b : Int) (w : World) :
    Calls Try.prog 86 #[.int .i64 a, .int .i64 b] w fun e w' => e = .returned (.int .i64 (turn a b)) ∧ w = w' := by
  have da := deg_lt a
  have db := deg_lt b
  obtain ⟨g1, g2⟩ := gap_bd a b
  go_enter Try.func86, Try.ntmps86
  go_wp2_with (first | (go_at_call 91; refine (impl_onCircle _ _).mono ?_; rintro e w' ⟨rfl, rfl⟩) | (go_at_call 94; refine (impl_difference _ _ _ (by omega) (by omega) (by omega) (by omega)).mono ?_; rintro e w' ⟨rfl, rfl⟩) | (go_at_call 68; refine (impl_least _ _ _).mono ?_; rintro e w' ⟨rfl, rfl⟩))
  go_ret
  exact ⟨ret_int (gmin_turn a b), rfl⟩
end Go.Proofs.Ytknggnchldcghab.Turn
