
/-
  What the numbers of degrees, differences and angles are, in the model and in the program. No condition but that a number fits its kind.
-/
import Derived.Test.YtednfkjdidlenaaDoorProg
import Derived.Test.YtednfkjdidlenaaDoorPlain
import Derived.Test.YtednfkjdidlenaaDoorSin
import Derived.Test.YtednfkjdidlenaaDoorOn
import Derived.Lib.Hide
import Derived.IntWalk
import Derived.Deep.QuietTactic
import Derived.BigQuiet
namespace Go.Proofs.YtednfkjdidlenaaDoor.Turn
open Go.RowKit
open Plain

def gmax (a b : Int) : Int := if a < b then b else a
def gmin (a b : Int) : Int := if b < a then b else a
def smin (a b : Int) : Int := if a < b then a else b
theorem smin_lt {a b : Int} (h : a < b) : smin a b = a := if_pos h
theorem smin_ge {a b : Int} (h : ¬ a < b) : smin a b = b := if_neg h
theorem gmax_gt {a b : Int} (h : a < b) : gmax a b = b := if_pos h
theorem gmax_le {a b : Int} (h : ¬ a < b) : gmax a b = a := if_neg h
theorem gmin_gt {a b : Int} (h : b < a) : gmin a b = b := if_pos h
theorem gmin_le {a b : Int} (h : ¬ b < a) : gmin a b = a := if_neg h
theorem gap_mm (a b : Int) : gmax a b - gmin a b = gap a b := by unfold gmax gmin gap; split <;> split <;> split <;> omega
theorem mm_bd (a b : Int) : (a ≤ gmax a b ∧ b ≤ gmax a b ∧ gmin a b ≤ a ∧ gmin a b ≤ b) ∧ (gmax a b = a ∨ gmax a b = b) ∧ (gmin a b = a ∨ gmin a b = b) := by unfold gmax gmin; split <;> split <;> omega

theorem impl_greatest (a b : Int) (w : World) :
    Calls Tryd.prog 31 #[.int .i64 a, .int .i64 b] w fun e w' => e = .returned (.int .i64 (gmax a b)) ∧ w = w' := by
  by_cases h : a < b
  · rw [gmax_gt h]
    go_enter Tryd.func31, Tryd.ntmps31
    go_wp2
    go_ret
    exact ⟨rfl, rfl⟩
  · rw [gmax_le h]
    go_enter Tryd.func31, Tryd.ntmps31
    go_wp2
    go_ret
    exact ⟨rfl, rfl⟩
theorem impl_least (a b : Int) (w : World) :
    Calls Tryd.prog 44 #[.int .i64 a, .int .i64 b] w fun e w' => e = .returned (.int .i64 (gmin a b)) ∧ w = w' := by
  by_cases h : b < a
  · rw [gmin_gt h]
    go_enter Tryd.func44, Tryd.ntmps44
    go_wp2
    go_ret
    exact ⟨rfl, rfl⟩
  · rw [gmin_le h]
    go_enter Tryd.func44, Tryd.ntmps44
    go_wp2
    go_ret
    exact ⟨rfl, rfl⟩
theorem turn_le {x : Int} (h : x ≤ 360 - x) : gmin x (360 - x) = x := gmin_le (by omega)
theorem gmin_turn (a b : Int) : gmin (gap (deg a) (deg b)) (360 - gap (deg a) (deg b)) = turn a b := by
  unfold gmin turn; split <;> split <;> omega
end Go.Proofs.YtednfkjdidlenaaDoor.Turn
