
/-
  The loss over an edge, in the model and in the program. No condition but each theorem's own.
-/
import Derived.Test.YtmmhekakihimfaaArith
import Derived.Test.YtmmhekakihimfaaRoot
import Derived.Test.YtmmhekakihimfaaRatio
import Derived.Test.YtmmhekakihimfaaTurn
namespace Go.Proofs.Ytmmhekakihimfaa.Edge
open Go.RowKit
open Plain

def smax (a b : Int) : Int := if b < a then a else b
theorem smax_gt {a b : Int} (h : b < a) : smax a b = a := if_pos h
theorem smax_le {a b : Int} (h : ¬ b < a) : smax a b = b := if_neg h
theorem spec_max (a b : Int) (w : World) :
    Calls Try.prog 74 #[.int .i64 a, .int .i64 b] w fun e w' => e = .returned (.int .i64 (smax a b)) ∧ w = w' := by
  by_cases h : b < a
  · rw [smax_gt h]
    go_enter Try.func74, Try.ntmps74
    go_wp2
    go_ret
    exact ⟨rfl, rfl⟩
  · rw [smax_le h]
    go_enter Try.func74, Try.ntmps74
    go_wp2
    go_ret
    exact ⟨rfl, rfl⟩

theorem sq_abs {a : Int} (h0 : -1000000 ≤ a) (h1 : a ≤ 1000000) : 0 ≤ a * a ∧ a * a ≤ 1000000000000 := by
  by_cases h : 0 ≤ a
  · have := sq_mono h h1; exact ⟨Int.mul_nonneg h h, by omega⟩
  · have e : -a * -a = a * a := Int.neg_mul_neg a a
    have := sq_mono (a := -a) (b := 1000000) (by omega) (by omega)
    have := Int.mul_nonneg (a := -a) (b := -a) (by omega) (by omega)
    omega
/-- The number whose logarithm is asked. -/
def edgeN (a : Int) : Int := rootOf (a * a + 1000000) + a
theorem edgeN_bd {a : Int} (h0 : -880 < a) (h1 : a ≤ 1000000) : 1 ≤ edgeN a ∧ edgeN a ≤ 3038000499 := by
  obtain ⟨s0, s1⟩ := sq_abs (a := a) (by omega) h1
  obtain ⟨r0, r1, _, r3⟩ := isRoot_rootOf (a * a + 1000000) (by omega)
  obtain ⟨_, r4⟩ := r3 (by omega)
  unfold edgeN
  generalize rootOf (a * a + 1000000) = r at *
  refine ⟨?_, by omega⟩
  by_cases h : 0 ≤ a
  · by_cases g : 1 ≤ r
    · omega
    · obtain rfl : r = 0 := by omega
      simp at r4
      omega
  · by_cases g : -a + 1 ≤ r
    · omega
    · exfalso
      have e : -a * -a = a * a := Int.neg_mul_neg a a
      have m := sq_mono (a := r + 1) (b := -a + 1) (by omega) (by omega)
      have x : (-a + 1) * (-a + 1) = -a * -a + 2 * -a + 1 := by rw [Int.add_mul, Int.mul_add]; omega
      omega
theorem log_thousand : logDb 1000 = 30000 := by
  have d3 : dg 1000 = 3 := by rw [dg_step (by decide), dg_step (by decide), dg_step (by decide), dg_small (by decide)]
  have f3 : fig 1000 = 100000000 := by unfold fig; rw [d3]; decide
  unfold logDb logN
  rw [if_neg (by decide), show (1000 : Int).toNat = 1000 from rfl, f3, d3]
  decide
def edgeX (a : Int) : Int := 6900 + 2 * (logDb (edgeN a) - 30000)
/-- The loss over an edge with a parameter that is not too great. -/
def edge (nu : Int) : Int := if nu ≤ -780 then 0 else if edgeX (nu - 100) ≤ 0 then 0 else edgeX (nu - 100)
def edgeLoss (nu : Int) : Int := if inB nu (-1000000) 1000000 = true then edge nu else 0
theorem edge_low {nu : Int} (h : nu ≤ -780) : edge nu = 0 := if_pos h
theorem edge_spec {nu : Int} (h : ¬ nu ≤ -780) : smax 0 (edgeX (nu - 100)) = edge nu := by unfold smax edge; rw [if_neg h]; split <;> split <;> omega
theorem edge_impl {nu : Int} (h : ¬ nu ≤ -780) : Turn.gmax 0 (edgeX (nu - 100)) = edge nu := by unfold Turn.gmax edge; rw [if_neg h]; split <;> split <;> omega
theorem edge_bd {nu : Int} (h : nu ≤ 1000000) : 0 ≤ edge nu ∧ edge nu ≤ 1000000 := by
  unfold edge
  split
  · omega
  · split
    · omega
    · have := logDb_bd (n := edgeN (nu - 100)) (by have := (edgeN_bd (a := nu - 100) (by omega) (by omega)).2; omega)
      unfold edgeX at *
      omega
theorem loss_in {nu : Int} (h : inB nu (-1000000) 1000000 = true) : edgeLoss nu = edge nu := if_pos h
theorem loss_out {nu : Int} (h : inB nu (-1000000) 1000000 = false) : edgeLoss nu = 0 := by unfold edgeLoss; rw [h]; rfl
theorem spec_edge (nu : Int) (w : World) (h0 : -1000000 ≤ nu) (h1 : nu ≤ 1000000) :
    Calls Try.prog 42 #[.int .i64 nu] w fun e w' => e = .returned (.int .i64 (edge nu)) ∧ w = w' := by
  by_cases h : nu ≤ -780
  · have en := Lib.hid (edge_low h)
    go_enter Try.func42, Try.ntmps42
    go_wp2_with fail
    go_ret
    exact ⟨ret_int en.out.symm, rfl⟩
  · have en := Lib.hid (edge_spec h)
    obtain ⟨s0, s1⟩ := sq_abs (a := nu - 100) (by omega) (by omega)
    obtain ⟨n0, n1⟩ := edgeN_bd (a := nu - 100) (by omega) (by omega)
    have HR := Lib.hid (fun w => Root.spec_root ((nu - 100) * (nu - 100) + 1000000) w (by omega))
    obtain ⟨r0, r1⟩ := rootOf_bd ((nu - 100) * (nu - 100) + 1000000) (by omega)
    have HN := Lib.hid (show rootOf ((nu - 100) * (nu - 100) + 1000000) + (nu - 100) = edgeN (nu - 100) from rfl)
    obtain ⟨l0, l1⟩ := logDb_bd (n := edgeN (nu - 100)) (by omega)
    have HL := Lib.hid (fun w => Log.spec_logI (edgeN (nu - 100)) w (by omega) (by omega))
    have HX := Lib.hid (show 6900 + 2 * (logDb (edgeN (nu - 100)) - 30000) = edgeX (nu - 100) from rfl)
    generalize rootOf ((nu - 100) * (nu - 100) + 1000000) = r at *
    go_enter Try.func42, Try.ntmps42
    go_wp2_with fail
    refine (HR.out _).mono ?_
    rintro e w1 ⟨rfl, rfl⟩
    go_wp2_with fail
    rw [HN.out]
    refine (HL.out _).mono ?_
    rintro e w1 ⟨rfl, rfl⟩
    go_wp2_with fail
    rw [HX.out]
    refine (spec_max _ _ _).mono ?_
    rintro e w1 ⟨rfl, rfl⟩
    go_wp2_with fail
    go_ret
    exact ⟨ret_int en.out, rfl⟩
theorem spec_EdgeLoss (nu : Int) (w : World) :
    Calls Try.prog 13 #[.int .i64 nu] w fun e w' => e = .returned (.int .i64 (edgeLoss nu)) ∧ w = w' := by
  cases h : inB nu (-1000000) 1000000 with
  | false =>
    have en := Lib.hid (loss_out h)
    go_enter Try.func13, Try.ntmps13
    go_wp2_with (go_at_call 41; refine (Arith.l00In _ _ _ _).mono ?_; rintro e w' ⟨rfl, rfl⟩)
    go_ret
    exact ⟨ret_int en.out.symm, rfl⟩
  | true =>
    have en := Lib.hid (loss_in h)
    obtain ⟨h0, h1⟩ := of_inB h
    have HE := Lib.hid (fun w => spec_edge nu w h0 h1)
    go_enter Try.func13, Try.ntmps13
    go_wp2_with (first | (go_at_call 41; refine (Arith.l00In _ _ _ _).mono ?_; rintro e w' ⟨rfl, rfl⟩) | (go_at_call 42; refine (HE.out _).mono ?_; rintro e w' ⟨rfl, rfl⟩))
    go_ret
    exact ⟨ret_int en.out.symm, rfl⟩
theorem impl_EdgeLoss (nu : Int) (w : World) :
    Calls Try.prog 14 #[.int .i64 nu] w fun e w' => e = .returned (.int .i64 (edgeLoss nu)) ∧ On w w' := by
  cases h : inB nu (-779) 1000000 with
  | false =>
    have en := Lib.hid (show edgeLoss nu = 0 by
      rcases of_not_inB h with g | g
      · unfold edgeLoss; rw [edge_low (by omega)]; split <;> rfl
      · exact loss_out (inB_no (.inr g)))
    go_enter Try.func14, Try.ntmps14
    go_wp2_with (go_at_call 43; refine (Arith.within _ _ _ _).mono ?_; rintro e w' ⟨rfl, rfl⟩)
    go_ret
    exact ⟨ret_int en.out.symm, On.refl _⟩
  | true =>
    obtain ⟨h0, h1⟩ := of_inB h
    have en := Lib.hid ((edge_impl (nu := nu) (by omega)).trans (loss_in (inB_yes (by omega) h1)).symm)
    obtain ⟨s0, s1⟩ := sq_abs (a := nu - 100) (by omega) (by omega)
    obtain ⟨n0, n1⟩ := edgeN_bd (a := nu - 100) (by omega) (by omega)
    have HR := Lib.hid (fun w => Root.impl_root ((nu - 100) * (nu - 100) + 1000000) w (by omega))
    obtain ⟨r0, r1⟩ := rootOf_bd ((nu - 100) * (nu - 100) + 1000000) (by omega)
    have HN := Lib.hid (show rootOf ((nu - 100) * (nu - 100) + 1000000) + (nu - 100) = edgeN (nu - 100) from rfl)
    have hr := Log.ratio_yes (a := edgeN (nu - 100)) (b := 1000) (by omega) (by omega)
    rw [log_thousand] at hr
    have hl := fun w => Log.impl_ratio (edgeN (nu - 100)) 1000 w (by omega) (by omega)
    rw [hr] at hl
    have HL := Lib.hid hl
    obtain ⟨l0, l1⟩ := logDb_bd (n := edgeN (nu - 100)) (by omega)
    have HX := Lib.hid (show 6900 + 2 * (logDb (edgeN (nu - 100)) - 30000) = edgeX (nu - 100) from rfl)
    generalize rootOf ((nu - 100) * (nu - 100) + 1000000) = r at *
    clear hl hr
    go_enter Try.func14, Try.ntmps14
    go_wp2_with (go_at_call 43; refine (Arith.within _ _ _ _).mono ?_; rintro e w' ⟨rfl, rfl⟩)
    refine (HR.out _).mono ?_
    rintro e w1 ⟨rfl, rfl⟩
    go_wp2_with fail
    rw [HN.out]
    refine (HL.out _).mono ?_
    rintro e w1 ⟨rfl, k1⟩
    go_wp2_with fail
    rw [HX.out]
    refine (Turn.impl_greatest _ _ _).mono ?_
    rintro e w2 ⟨rfl, rfl⟩
    go_wp2_with fail
    go_ret
    exact ⟨ret_int en.out, k1⟩
end Go.Proofs.Ytmmhekakihimfaa.Edge
