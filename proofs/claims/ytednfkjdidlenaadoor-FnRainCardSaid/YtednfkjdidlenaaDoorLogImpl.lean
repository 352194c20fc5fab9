
/-
  What the program's logarithm is. No condition but that the number fits its kind.
-/
import Derived.Test.YtednfkjdidlenaaDoorLogSpec
import Derived.Test.YtednfkjdidlenaaDoorTurn
import Derived.Test.YtednfkjdidlenaaDoorShelf
import Derived.RegionTactic
import Derived.Deep.QuietTactic
import Derived.BigQuiet
namespace Go.Proofs.YtednfkjdidlenaaDoor.Log
open Go.RowKit
open Plain

/-- A power of ten. -/
def pw (k : Nat) : Nat := 10 ^ k
theorem pow_le (e : Nat) (h : e ≤ 18) : pw e ≤ 1000000000000000000 := Nat.pow_le_pow_right (n := 10) (by decide) h
set_option maxHeartbeats 1000000 in
theorem impl_tenTo (e : Nat) (w : World) (h : e ≤ 18) :
    Calls Tryd.prog 43 #[.int .i64 e] w fun x w' => x = .returned (.int .i64 (pw e : Nat)) ∧ w = w' := by
  have hp := pow_le e h
  have HP := Lib.hid hp
  clear hp
  go_enter Tryd.func43, Tryd.ntmps43
  go_wp2
  go_loop [3, 5] (fun p i => ∃ k q : Nat, k ≤ e ∧ i = .int .i64 k ∧ p = .int .i64 q ∧ q = pw k) (fun _ i => e - (intOf i).toNat)
  case atStart => exact ⟨0, 1, Nat.zero_le _, rfl, rfl, rfl⟩
  case round =>
    obtain ⟨k, q, hk, rfl, rfl, hq⟩ := hrel
    have hb : q ≤ 1000000000000000000 := by rw [hq]; exact pow_le k (by omega)
    by_cases hlt : k < e
    · have hb2 : q * 10 ≤ 1000000000000000000 := by have := pow_le (k + 1) (by omega); unfold pw at this hq; rw [Nat.pow_succ, ← hq] at this; exact this
      have HQ := Lib.hid (show q * 10 = pw (k + 1) from by rw [hq]; exact (Nat.pow_succ ..).symm)
      clear hq
      go_wp2
      go_round
      case rel => exact ⟨k + 1, q * 10, by omega, by go_num, by go_num, HQ.out⟩
      case measure => simp [intOf]; omega
    · obtain rfl : k = e := by omega
      have HQ := Lib.hid hq
      clear hq
      go_wp2
      go_ret
      exact ⟨ret_int (by rw [HQ.out]), rfl⟩
theorem impl_digits (n : Nat) (w : World) (h1 : n ≤ 9223372036854775807) :
    Calls Tryd.prog 45 #[.int .i64 n] w fun e w' => e = .returned (.int .i64 ((dg n : Int) + 1)) ∧ w = w' := by
  have hd := dg_le (n := n) (by omega)
  go_enter Tryd.func45, Tryd.ntmps45
  go_wp2
  go_loop [0, 3] (fun m r => ∃ (k u : Nat), r = .int .i64 ((k : Int) + 1) ∧ m = .int .i64 u ∧ u ≤ n ∧ k + dg u = dg n) (fun m _ => (intOf m).toNat)
  case atStart => exact ⟨0, n, rfl, rfl, Nat.le_refl _, by omega⟩
  case round =>
    obtain ⟨k, u, rfl, rfl, hu, hk⟩ := hrel
    by_cases h10 : 10 ≤ u
    · have HN := Lib.hid (show k + 1 + dg (u / 10) = dg n by have := dg_step h10; omega)
      have hk18 : k ≤ 17 := by have := dg_step h10; omega
      clear hk
      go_wp2
      go_round
      case rel => exact ⟨k + 1, u / 10, by go_num, by go_num, by omega, HN.out⟩
      case measure => simp [intOf]; omega
    · have hdu := dg_small (n := u) (by omega)
      obtain rfl : k = dg n := by omega
      clear hk hdu
      go_wp2
      go_ret
      exact ⟨rfl, rfl⟩
theorem div64 (p : Nat) (w : World) (hp : p < 18446744073709551616) :
    Calls Tryd.prog 50 #[.int .u64 0, .int .u64 p, .int .u64 100000000] w fun e w' => e = .returned (.tuple #[.int .u64 ((p / 100000000 : Nat) : Int), .int .u64 ((p % 100000000 : Nat) : Int)]) ∧ ∃ n, w' = w.drewN n := by
  go_enter Tryd.func50, Tryd.ntmps50
  go_wp2_with fail
  go_quiet (fail)
  go_wp2_with fail
  go_ret2
  exact ⟨rfl, _, rfl⟩
theorem mul64 (x y p : Nat) (w : World) (h : p = x * y) (hp : p < 18446744073709551616) (hx : x < 18446744073709551616) (hy : y < 18446744073709551616) :
    Calls Tryd.prog 49 #[.int .u64 x, .int .u64 y] w fun e w' => e = .returned (.tuple #[.int .u64 0, .int .u64 p]) ∧ w = w' := by
  refine (Tryd.bits_Mul64 x y hx hy w).mono ?_
  rintro e w' ⟨rfl, rfl⟩
  refine ⟨?_, rfl⟩
  rw [← h, Nat.div_eq_of_lt hp, Nat.mod_eq_of_lt hp]
  rfl
set_option maxRecDepth 1000000 in
theorem impl_times (x y : Nat) (ex ey : Int) (w : World) (hx : Fig x) (hy : Fig y) (e0 : 0 ≤ ex) (e1 : ex ≤ 1000) (f0 : 0 ≤ ey) (f1 : ey ≤ 1000) :
    Calls Tryd.prog 48 #[.agg #[.int .i64 x, .int .i64 ex], .agg #[.int .i64 y, .int .i64 ey]] w fun e w' => e = .returned (.agg #[.int .i64 (tmV x y), .int .i64 (ex + ey + tmD x y)]) ∧ On w w' := by
  obtain ⟨p0, p1⟩ := prod_bd hx.1 hx.2 hy.1 hy.2
  obtain ⟨x0, x1⟩ := hx
  obtain ⟨y0, y1⟩ := hy
  obtain ⟨p, hp⟩ : ∃ p, p = x * y := ⟨_, rfl⟩
  have hpi : (p : Int) = (x : Int) * y := by rw [hp]; exact Int.natCast_mul _ _
  rw [← hpi] at p0 p1
  have HM := Lib.hid (fun w => mul64 x y p w hp (by omega) (by omega) (by omega))
  obtain ⟨q, hq⟩ : ∃ q, q = p / 100000000 := ⟨_, rfl⟩
  obtain ⟨r, hr⟩ : ∃ r, r = p % 100000000 := ⟨_, rfl⟩
  have hd := fun w => div64 p w (by omega)
  rw [← hq, ← hr] at hd
  have HD := Lib.hid hd
  have q1 : (q : Int) ≤ 9999999980 := by omega
  have r1 : (r : Int) ≤ 99999999 := by omega
  by_cases h : 1000000000 ≤ (q : Int)
  · have V := Lib.hid (show tmV x y = (q : Int) / 10 by unfold tmV; rw [← hpi, if_pos (by omega)]; omega)
    have D := Lib.hid (show tmD x y = 1 by unfold tmD; rw [← hpi, if_pos (by omega)])
    clear hp hpi hq hr hd p0 p1
    go_enter Tryd.func48, Tryd.ntmps48
    go_wp2_with fail
    refine (HM.out _).mono ?_
    rintro e w1 ⟨rfl, rfl⟩
    go_wp2_with fail
    refine (HD.out _).mono ?_
    rintro e w1 ⟨rfl, n, rfl⟩
    go_wp2_with fail
    refine bodyPost_ret (v := .agg #[.int .i64 ((q : Int) / 10), .int .i64 (ex + ey + 1)]) (by simp [results, Tryd.results48, go_sem]) rfl ⟨by rw [V.out, D.out], ?_⟩
    repeat (first | exact On.refl _ | apply On.alloc | apply On.drewN | refine On.setCell ?_ (by (try simp) <;> omega) _)
  · have hdec : decide ((1000000000 : Int) ≤ (q : Int)) = false := decide_eq_false h
    have V := Lib.hid (show tmV x y = (q : Int) by unfold tmV; rw [← hpi, if_neg (by omega)]; omega)
    have D := Lib.hid (show tmD x y = 0 by unfold tmD; rw [← hpi, if_neg (by omega)])
    clear hp hpi hq hr hd p0 p1 h
    go_enter Tryd.func48, Tryd.ntmps48
    go_wp2_with fail
    refine (HM.out _).mono ?_
    rintro e w1 ⟨rfl, rfl⟩
    go_wp2_with fail
    refine (HD.out _).mono ?_
    rintro e w1 ⟨rfl, n, rfl⟩
    go_wp2_with fail
    refine bodyPost_ret (v := .agg #[.int .i64 (q : Int), .int .i64 (ex + ey)]) (by simp [results, Tryd.results48, go_sem]) rfl ⟨by rw [V.out, D.out, Int.add_zero], ?_⟩
    repeat (first | exact On.refl _ | apply On.alloc | apply On.drewN | refine On.setCell ?_ (by (try simp) <;> omega) _)
/-- The same over whole numbers. -/
theorem impl_timesI (x y : Int) (ex ey : Int) (w : World) (hx : Fig x) (hy : Fig y) (e0 : 0 ≤ ex) (e1 : ex ≤ 1000) (f0 : 0 ≤ ey) (f1 : ey ≤ 1000) :
    Calls Tryd.prog 48 #[.agg #[.int .i64 x, .int .i64 ex], .agg #[.int .i64 y, .int .i64 ey]] w fun e w' => e = .returned (.agg #[.int .i64 (tmV x y), .int .i64 (ex + ey + tmD x y)]) ∧ On w w' := by
  obtain ⟨a, rfl⟩ := Int.eq_ofNat_of_zero_le (a := x) (by have := hx.1; omega)
  obtain ⟨b, rfl⟩ := Int.eq_ofNat_of_zero_le (a := y) (by have := hy.1; omega)
  exact impl_times a b ex ey w hx hy e0 e1 f0 f1
end Go.Proofs.YtednfkjdidlenaaDoor.Log
