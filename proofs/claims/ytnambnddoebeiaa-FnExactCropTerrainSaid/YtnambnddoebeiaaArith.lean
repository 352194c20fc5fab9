
/-
  What the ranges, the magnitude, the nearest quotient and the line of the model and of the program return. Conditions: each theorem's own, on the size of its numbers.
-/
import Derived.Test.YtnambnddoebeiaaProg
import Derived.Test.YtnambnddoebeiaaPlain
import Derived.WalkKit
import Derived.Lib.Hide
import Derived.IntWalk
import Derived.Laws.Bits64
import Derived.RegionTactic
import Derived.Deep.QuietTactic
import Derived.BigQuiet
namespace Go.Proofs.Ytnambnddoebeiaa.Arith
open Go.RowKit
open Plain

theorem ret_bool {a b : Bool} (h : a = b) : Ending.returned (.bool a) = .returned (.bool b) := by rw [h]
theorem ret_int {k : IntKind} {a b : Int} (h : a = b) : Ending.returned (.int k a) = .returned (.int k b) := by rw [h]
theorem l00In_yes (v lo hi : Int) (w : World) (h1 : lo ≤ v) (h2 : v ≤ hi) :
    Calls Try.prog 28 #[.int .i64 v, .int .i64 lo, .int .i64 hi] w fun e w' => e = .returned (.bool true) ∧ w = w' := by
  go_enter Try.func28, Try.ntmps28
  go_wp2
  go_ret
  exact ⟨rfl, rfl⟩
theorem l00In_no (v lo hi : Int) (w : World) (h : v < lo ∨ hi < v) :
    Calls Try.prog 28 #[.int .i64 v, .int .i64 lo, .int .i64 hi] w fun e w' => e = .returned (.bool false) ∧ w = w' := by
  by_cases h1 : v < lo
  · clear h
    go_enter Try.func28, Try.ntmps28
    go_wp2
    go_ret
    exact ⟨rfl, rfl⟩
  · have h2 : hi < v := by omega
    clear h
    go_enter Try.func28, Try.ntmps28
    go_wp2
    go_ret
    exact ⟨ret_bool (decide_eq_false (by omega)), rfl⟩
theorem within_yes (v lo hi : Int) (w : World) (h1 : lo ≤ v) (h2 : v ≤ hi) :
    Calls Try.prog 53 #[.int .i64 v, .int .i64 lo, .int .i64 hi] w fun e w' => e = .returned (.bool true) ∧ w = w' := by
  go_enter Try.func53, Try.ntmps53
  go_wp2
  go_ret
  exact ⟨rfl, rfl⟩
theorem within_no (v lo hi : Int) (w : World) (h : v < lo ∨ hi < v) :
    Calls Try.prog 53 #[.int .i64 v, .int .i64 lo, .int .i64 hi] w fun e w' => e = .returned (.bool false) ∧ w = w' := by
  by_cases h1 : v < lo
  · clear h
    go_enter Try.func53, Try.ntmps53
    go_wp2
    go_ret
    exact ⟨rfl, rfl⟩
  · have h2 : hi < v := by omega
    clear h
    go_enter Try.func53, Try.ntmps53
    go_wp2
    go_ret
    exact ⟨ret_bool (decide_eq_false (by omega)), rfl⟩
theorem l00In (v lo hi : Int) (w : World) :
    Calls Try.prog 28 #[.int .i64 v, .int .i64 lo, .int .i64 hi] w fun e w' => e = .returned (.bool (inB v lo hi)) ∧ w = w' := by
  by_cases h : lo ≤ v ∧ v ≤ hi
  · rw [inB_yes h.1 h.2]; exact l00In_yes v lo hi w h.1 h.2
  · rw [inB_no (by omega)]; exact l00In_no v lo hi w (by omega)
theorem within (v lo hi : Int) (w : World) :
    Calls Try.prog 53 #[.int .i64 v, .int .i64 lo, .int .i64 hi] w fun e w' => e = .returned (.bool (inB v lo hi)) ∧ w = w' := by
  by_cases h : lo ≤ v ∧ v ≤ hi
  · rw [inB_yes h.1 h.2]; exact within_yes v lo hi w h.1 h.2
  · rw [inB_no (by omega)]; exact within_no v lo hi w (by omega)

theorem magnitude (n : Int) (w : World) (h1 : -9223372036854775808 ≤ n) (h2 : n ≤ 9223372036854775807) :
    Calls Try.prog 77 #[.int .i64 n] w fun e w' => e = .returned (.int .u64 (n.natAbs : Nat)) ∧ w = w' := by
  by_cases h : n < 0
  · go_enter Try.func77, Try.ntmps77
    go_wp2
    go_ret
    exact ⟨ret_int (by rw [IntKind.wrap_u64, IntKind.wrap_u64]; omega), rfl⟩
  · go_enter Try.func77, Try.ntmps77
    go_wp2
    go_ret
    exact ⟨ret_int (by omega), rfl⟩

theorem l01Div (a b : Int) (w : World) (ha : -4611686018427387904 ≤ 2 * a) (ha' : 2 * a ≤ 4611686018427387904) (hb : -2305843009213693952 ≤ b) (hb' : b ≤ 2305843009213693952) (hb0 : b ≠ 0) :
    Calls Try.prog 74 #[.int .i64 a, .int .i64 b] w fun e w' => e = .returned (.int .i64 (near a b)) ∧ w = w' := by
  by_cases h1 : b < 0
  · by_cases h2 : a ≤ 0
    · have en := Lib.hid (near_div_nn a b h1 h2)
      go_enter Try.func74, Try.ntmps74
      go_wp2
      go_ret
      exact ⟨ret_int en.out.symm, rfl⟩
    · have en := Lib.hid (near_div_np a b h1 (by omega))
      go_enter Try.func74, Try.ntmps74
      go_wp2
      go_ret
      exact ⟨ret_int (by rw [IntWalk.wrap64_in _ (by have := IntWalk.tdiv_le (-b - 2 * -a) (2 * -b) (by omega) (by omega); omega)]; exact en.out.symm), rfl⟩
  · have h0 : 0 < b := by omega
    by_cases h2 : a < 0
    · have en := Lib.hid (near_div_pn a b h0 h2)
      go_enter Try.func74, Try.ntmps74
      go_wp2
      go_ret
      exact ⟨ret_int (by rw [IntWalk.wrap64_in _ (by have := IntWalk.tdiv_le (b - 2 * a) (2 * b) (by omega) (by omega); omega)]; exact en.out.symm), rfl⟩
    · have en := Lib.hid (near_div_pp a b h0 (by omega))
      go_enter Try.func74, Try.ntmps74
      go_wp2
      go_ret
      exact ⟨ret_int en.out.symm, rfl⟩

theorem nearest (a b : Int) (w : World) (ha : -4611686018427387904 ≤ a) (ha' : a ≤ 4611686018427387904) (hb : -4611686018427387904 ≤ b) (hb' : b ≤ 4611686018427387904) (hb0 : b ≠ 0) :
    Calls Try.prog 73 #[.int .i64 a, .int .i64 b] w fun e w' => e = .returned (.int .i64 (near a b)) ∧ ∃ n, w' = w.drewN n := by
  obtain ⟨x, hx⟩ : ∃ x, x = a.natAbs := ⟨_, rfl⟩
  obtain ⟨y, hy⟩ : ∃ y, y = b.natAbs := ⟨_, rfl⟩
  have y0 : 0 < y := by omega
  have yi : (0 : Int) < y := by omega
  have xb : x ≤ 4611686018427387904 := by omega
  have yb : y ≤ 4611686018427387904 := by omega
  have r1 : (x : Int) % (y : Int) < y := Int.emod_lt_of_pos _ (by omega)
  have r2 : 0 ≤ (x : Int) % (y : Int) := Int.emod_nonneg _ (by omega)
  have q1 : 0 ≤ (x : Int) / (y : Int) := Int.ediv_nonneg (by omega) (by omega)
  have q2 : (x : Int) / (y : Int) ≤ x := Int.ediv_le_self _ (by omega)
  have HX := Lib.hid hx
  have HY := Lib.hid hy
  clear hx hy
  go_enter Try.func73, Try.ntmps73
  go_wp2_with fail
  refine (magnitude a _ (by omega) (by omega)).mono ?_
  rintro e w' ⟨rfl, rfl⟩
  rw [← HX.out]
  go_wp2_with fail
  refine (magnitude b _ (by omega) (by omega)).mono ?_
  rintro e w' ⟨rfl, rfl⟩
  rw [← HY.out]
  go_wp2_with fail
  go_quiet (fail)
  go_wp2_with fail
  all_goals (go_ret; refine ⟨ret_int ?_, _, rfl⟩; show _ = near a b; first | exact near_u1 HX.out HY.out y0 ‹_› ‹_› | exact near_u2 HX.out HY.out y0 ‹_› ‹_› | exact near_d1 HX.out HY.out y0 ‹_› ‹_› | exact near_d2 HX.out HY.out y0 ‹_› ‹_›)

/-- What DivRound returns. -/
def divRound (a b : Int) : Int := if b = 0 ∨ inB a (-1000000000000) 1000000000000 = false ∨ inB b (-1000000000000) 1000000000000 = false then 0 else near a b
theorem divRound_no {a b : Int} (h : b = 0 ∨ inB a (-1000000000000) 1000000000000 = false ∨ inB b (-1000000000000) 1000000000000 = false) : divRound a b = 0 := if_pos h
theorem divRound_yes {a b : Int} (h0 : b ≠ 0) (h1 : inB a (-1000000000000) 1000000000000 = true) (h2 : inB b (-1000000000000) 1000000000000 = true) : divRound a b = near a b := by
  unfold divRound
  rw [if_neg (by rw [h1, h2]; simp [h0])]

end Go.Proofs.Ytnambnddoebeiaa.Arith
