
/-
  What the model's logarithm is. No condition but that the number fits its kind.
-/
import Derived.Test.YtkcjbcllpbojhaaDoorProg
import Derived.Test.YtkcjbcllpbojhaaDoorLogPlain
import Derived.Test.YtkcjbcllpbojhaaDoorOn
import Derived.Lib.Hide
import Derived.IntWalk
namespace Go.Proofs.YtkcjbcllpbojhaaDoor.Log
open Go.RowKit
open Plain

theorem ret_ii {a b c d : Int} (h1 : a = b) (h2 : c = d) : Ending.returned (.tuple #[.int .i64 a, .int .i64 c]) = .returned (.tuple #[.int .i64 b, .int .i64 d]) := by rw [h1, h2]
theorem spec_times (a b : Int) (w : World) (ha : Fig a) (hb : Fig b) :
    Calls Tryd.prog 92 #[.int .i64 a, .int .i64 b] w fun e w' => e = .returned (.tuple #[.int .i64 (tmV a b), .int .i64 (tmD a b)]) ∧ w = w' := by
  obtain ⟨a0, a1⟩ := ha
  obtain ⟨b0, b1⟩ := hb
  obtain ⟨p0, p1⟩ := prod_bd a0 a1 b0 b1
  by_cases h : 1000000000 ≤ a * b / 100000000
  · have V := Lib.hid (show tmV a b = a * b / 100000000 / 10 from if_pos h)
    have D := Lib.hid (show tmD a b = 1 from if_pos h)
    go_enter Tryd.func92, Tryd.ntmps92
    go_wp2
    go_ret2
    exact ⟨ret_ii V.out.symm D.out.symm, rfl⟩
  · have V := Lib.hid (show tmV a b = a * b / 100000000 from if_neg h)
    have D := Lib.hid (show tmD a b = 0 from if_neg h)
    go_enter Tryd.func92, Tryd.ntmps92
    go_wp2
    go_ret2
    exact ⟨ret_ii V.out.symm D.out.symm, rfl⟩
theorem spec_tenth (x : Int) (w : World) (h : Fig x) :
    Calls Tryd.prog 78 #[.int .i64 x] w fun e w' => e = .returned (.tuple #[.int .i64 (tenV x), .int .i64 (tenD x)]) ∧ w = w' := by
  obtain ⟨d1, d2⟩ := tmD_bd x x
  obtain ⟨d3, d4⟩ := tmD_bd (tmV x x) (tmV x x)
  obtain ⟨d5, d6⟩ := tmD_bd (tmV (tmV x x) (tmV x x)) x
  obtain ⟨d7, d8⟩ := tmD_bd (tmV (tmV (tmV x x) (tmV x x)) x) (tmV (tmV (tmV x x) (tmV x x)) x)
  go_enter Tryd.func78, Tryd.ntmps78
  go_wp2_with fail
  refine (spec_times x x _ h h).mono ?_
  rintro e w1 ⟨rfl, rfl⟩
  go_wp2_with fail
  refine (spec_times (tmV x x) (tmV x x) _ (two_fig h) (two_fig h)).mono ?_
  rintro e w1 ⟨rfl, rfl⟩
  go_wp2_with fail
  refine (spec_times (tmV (tmV x x) (tmV x x)) x _ (four_fig h) h).mono ?_
  rintro e w1 ⟨rfl, rfl⟩
  go_wp2_with fail
  refine (spec_times (tmV (tmV (tmV x x) (tmV x x)) x) (tmV (tmV (tmV x x) (tmV x x)) x) _ (five_fig h) (five_fig h)).mono ?_
  rintro e w1 ⟨rfl, rfl⟩
  go_wp2_with fail
  go_ret2
  exact ⟨ret_ii rfl rfl, rfl⟩
set_option maxHeartbeats 1000000 in
theorem spec_log (n : Nat) (w : World) (h0 : 0 < n) (h1 : n ≤ 9223372036854775807) :
    Calls Tryd.prog 61 #[.int .i64 n] w fun e w' => e = .returned (.int .i64 (logN n)) ∧ w = w' := by
  have hd := dg_le (n := n) (by omega)
  go_enter Tryd.func61, Tryd.ntmps61
  go_wp2
  go_loop [3, 4] (fun r m => ∃ (k u : Nat), r = .int .i64 k ∧ m = .int .i64 u ∧ u ≤ n ∧ k + dg u = dg n) (fun _ m => (intOf m).toNat)
  case atStart => exact ⟨0, n, rfl, rfl, Nat.le_refl _, by omega⟩
  case round =>
    obtain ⟨k, u, rfl, rfl, hu, hk⟩ := hrel
    by_cases h10 : 10 ≤ u
    · have HN := Lib.hid (show k + 1 + dg (u / 10) = dg n by have := dg_step h10; omega)
      have hk18 : k ≤ 17 := by have := dg_step h10; omega
      clear hk
      go_wp2
      go_round
      case rel => exact ⟨k + 1, u / 10, by go_num, by go_num, by omega, HN.out⟩
      case measure => simp [intOf]; omega
    · have hdu := dg_small (n := u) (by omega)
      obtain rfl : k = dg n := by omega
      clear hk hdu
      go_wp2
      go_loop [5, 6] (fun x k => ∃ (j y : Nat), x = .int .i64 y ∧ k = .int .i64 j ∧ Up n j y) (fun _ k => (8 - intOf k).toNat)
      case atStart => exact ⟨_, n, rfl, rfl, up_start n⟩
      case round =>
        obtain ⟨j, y, rfl, rfl, hup⟩ := hrel
        have hy := up_bd hup h1
        have hj18 : j ≤ 18 := by obtain ⟨_, g | g, _⟩ := hup <;> omega
        by_cases h8 : j < 8
        · obtain ⟨hn, hb⟩ := up_step hup h8
          clear hup
          go_wp2
          go_round
          case rel => exact ⟨j + 1, y * 10, by go_num, by go_num, hn⟩
          case measure => simp [intOf]; omega
        · have hdn := up_end hup h8
          clear hup
          go_wp2
          go_loop [5, 7] (fun x k => ∃ (j y : Nat), x = .int .i64 y ∧ k = .int .i64 j ∧ Down n j y) (fun _ k => (intOf k).toNat)
          case atStart => exact ⟨_, _, rfl, rfl, hdn⟩
          case round =>
            obtain ⟨j, y, rfl, rfl, hdw⟩ := hrel
            have hy := down_bd hdw h0 h1
            have hj18 : j ≤ 18 := Nat.le_trans hdw.1 hd
            by_cases h8 : 8 < j
            · have hn := down_step hdw h8
              clear hdw
              go_wp2
              go_round
              case rel => exact ⟨j - 1, y / 10, by go_num, by go_num, hn⟩
              case measure => simp [intOf]; omega
            · have hf := down_end hdw h8
              subst hf
              have ff := fig_fig h0
              go_wp2
              go_loop [3, 5, 8] (fun r x i => ∃ k : Nat, k ≤ 4 ∧ i = .int .i64 k ∧ x = .int .i64 (itX k (fig n)) ∧ r = .int .i64 (itR k (fig n) (dg n))) (fun _ _ i => (4 - intOf i).toNat)
              case atStart => exact ⟨0, by omega, rfl, rfl, rfl⟩
              case round =>
                obtain ⟨k, hk, rfl, rfl, rfl⟩ := hrel
                obtain ⟨r0, r1⟩ := itR_le (x := (fig n : Int)) (r := (dg n : Int)) (by omega) (by omega) k hk
                have fx := itX_fig ff k
                obtain ⟨t0, t1⟩ := tenD_bd (itX k (fig n))
                by_cases h4 : k < 4
                · go_wp2_with (go_at_call 78; refine (spec_tenth _ _ fx).mono ?_; rintro e w1 ⟨rfl, rfl⟩)
                  go_round
                  case rel => exact ⟨k + 1, by omega, by go_num, rfl, rfl⟩
                  case measure => simp [intOf]; omega
                · obtain rfl : k = 4 := by omega
                  go_wp2
                  go_ret
                  exact ⟨rfl, rfl⟩
end Go.Proofs.YtkcjbcllpbojhaaDoor.Log
