
/-
  What the ranges, the magnitude, the nearest quotient and the line of the model and of the program return. Conditions: each theorem's own, on the size of its numbers.
-/
import Derived.Test.YtmpeogmlnajliaaProg
import Derived.Test.YtmpeogmlnajliaaPlain
import Derived.WalkKit
import Derived.Lib.Hide
import Derived.IntWalk
import Derived.Laws.Bits64
import Derived.RegionTactic
import Derived.Deep.QuietTactic
import Derived.BigQuiet
namespace Go.Proofs.Ytmpeogmlnajliaa.Arith
open Go.RowKit
open Plain

theorem ret_bool {a b : Bool} (h : a = b) : Ending.returned (.bool a) = .returned (.bool b) := by rw [h]
theorem ret_int {k : IntKind} {a b : Int} (h : a = b) : Ending.returned (.int k a) = .returned (.int k b) := by rw [h]
theorem l00In_yes (v lo hi : Int) (w : World) (h1 : lo ≤ v) (h2 : v ≤ hi) :
    Calls Try.prog 47 #[.int .i64 v, .int .i64 lo, .int .i64 hi] w fun e w' => e = .returned (.bool true) ∧ w = w' := by
  go_enter Try.func47, Try.ntmps47
  go_wp2
  go_ret
  exact ⟨rfl, rfl⟩
theorem l00In_no (v lo hi : Int) (w : World) (h : v < lo ∨ hi < v) :
    Calls Try.prog 47 #[.int .i64 v, .int .i64 lo, .int .i64 hi] w fun e w' => e = .returned (.bool false) ∧ w = w' := by
  by_cases h1 : v < lo
  · clear h
    go_enter Try.func47, Try.ntmps47
    go_wp2
    go_ret
    exact ⟨rfl, rfl⟩
  · have h2 : hi < v := by omega
    clear h
    go_enter Try.func47, Try.ntmps47
    go_wp2
    go_ret
    exact ⟨ret_bool (decide_eq_false (by omega)), rfl⟩
theorem within_yes (v lo hi : Int) (w : World) (h1 : lo ≤ v) (h2 : v ≤ hi) :
    Calls Try.prog 52 #[.int .i64 v, .int .i64 lo, .int .i64 hi] w fun e w' => e = .returned (.bool true) ∧ w = w' := by
  go_enter Try.func52, Try.ntmps52
  go_wp2
  go_ret
  exact ⟨rfl, rfl⟩
theorem within_no (v lo hi : Int) (w : World) (h : v < lo ∨ hi < v) :
    Calls Try.prog 52 #[.int .i64 v, .int .i64 lo, .int .i64 hi] w fun e w' => e = .returned (.bool false) ∧ w = w' := by
  by_cases h1 : v < lo
  · clear h
    go_enter Try.func52, Try.ntmps52
    go_wp2
    go_ret
    exact ⟨rfl, rfl⟩
  · have h2 : hi < v := by omega
    clear h
    go_enter Try.func52, Try.ntmps52
    go_wp2
    go_ret
    exact ⟨ret_bool (decide_eq_false (by omega)), rfl⟩
theorem l00In (v lo hi : Int) (w : World) :
    Calls Try.prog 47 #[.int .i64 v, .int .i64 lo, .int .i64 hi] w fun e w' => e = .returned (.bool (inB v lo hi)) ∧ w = w' := by
  by_cases h : lo ≤ v ∧ v ≤ hi
  · rw [inB_yes h.1 h.2]; exact l00In_yes v lo hi w h.1 h.2
  · rw [inB_no (by omega)]; exact l00In_no v lo hi w (by omega)
theorem within (v lo hi : Int) (w : World) :
    Calls Try.prog 52 #[.int .i64 v, .int .i64 lo, .int .i64 hi] w fun e w' => e = .returned (.bool (inB v lo hi)) ∧ w = w' := by
  by_cases h : lo ≤ v ∧ v ≤ hi
  · rw [inB_yes h.1 h.2]; exact within_yes v lo hi w h.1 h.2
  · rw [inB_no (by omega)]; exact within_no v lo hi w (by omega)

/-- What DivRound returns. -/
def divRound (a b : Int) : Int := if b = 0 ∨ inB a (-1000000000000) 1000000000000 = false ∨ inB b (-1000000000000) 1000000000000 = false then 0 else near a b
theorem divRound_no {a b : Int} (h : b = 0 ∨ inB a (-1000000000000) 1000000000000 = false ∨ inB b (-1000000000000) 1000000000000 = false) : divRound a b = 0 := if_pos h
theorem divRound_yes {a b : Int} (h0 : b ≠ 0) (h1 : inB a (-1000000000000) 1000000000000 = true) (h2 : inB b (-1000000000000) 1000000000000 = true) : divRound a b = near a b := by
  unfold divRound
  rw [if_neg (by rw [h1, h2]; simp [h0])]

end Go.Proofs.Ytmpeogmlnajliaa.Arith
