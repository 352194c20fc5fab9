
/-
  Fading, rain that is too heavy, chains and alternatives, in the model and in the program. Conditions: each theorem's own.
-/
import Derived.Test.YtafhphceojamoaaDoorFadeP
import Derived.Test.YtafhphceojamoaaDoorRain
import Derived.Test.YtafhphceojamoaaDoorFree
namespace Go.Proofs.YtafhphceojamoaaDoor.Fade
open Go.RowKit
open Plain
open Span (SpanG)
open Ints (Ints)
open Free (okV okC ret_ii)
open Tab (ret_int)

theorem max_hz (f : Int) : Free.smax 1 (f / 1000) = hz f := by unfold Free.smax hz; split <;> (try split) <;> omega
theorem gmax_hz (f : Int) : Turn.gmax 1 (f / 1000) = hz f := by unfold Turn.gmax hz; split <;> (try split) <;> omega
theorem smin_top (p : Int) : Turn.smin 1000000 p = topV p := by unfold Turn.smin topV; split <;> split <;> omega
theorem gmin_top (p : Int) : Turn.gmin 1000000 p = topV p := by unfold Turn.gmin topV; split <;> (try split) <;> omega
theorem exc_v : Tab.Ok excP excV 5 := ⟨rfl, rfl, by decide, by decide, by decide, by decide, by decide⟩
theorem spec_l13Climate (v : Int) (w : World) :
    Calls Tryd.prog 44 #[.int .i64 v] w fun e w' => e = .returned (.bool (inB v 25 400)) ∧ w = w' := by
  go_enter Tryd.func44, Tryd.ntmps44
  go_wp2_with (go_at_call 85; refine (Arith.l00In _ _ _ _).mono ?_; rintro e w' ⟨rfl, rfl⟩)
  go_ret
  exact ⟨rfl, rfl⟩
theorem spec_l13Margin (v : Int) (w : World) :
    Calls Tryd.prog 45 #[.int .i64 v] w fun e w' => e = .returned (.bool (inB v 0 100000)) ∧ w = w' := by
  go_enter Tryd.func45, Tryd.ntmps45
  go_wp2_with (go_at_call 85; refine (Arith.l00In _ _ _ _).mono ?_; rintro e w' ⟨rfl, rfl⟩)
  go_ret
  exact ⟨rfl, rfl⟩
theorem spec_l13Outage (v : Int) (w : World) :
    Calls Tryd.prog 49 #[.int .i64 v] w fun e w' => e = .returned (.bool (inB v 0 1000000)) ∧ w = w' := by
  go_enter Tryd.func49, Tryd.ntmps49
  go_wp2_with (go_at_call 85; refine (Arith.l00In _ _ _ _).mono ?_; rintro e w' ⟨rfl, rfl⟩)
  go_ret
  exact ⟨rfl, rfl⟩
theorem spec_exceed (r : Int) (w : World) :
    Calls Tryd.prog 53 #[.int .i64 r] w fun e w' => e = .returned (.int .i64 (excS r)) ∧ On w w' := by
  go_enter Tryd.func53, Tryd.ntmps53
  go_wp2_with fail
  refine (Tab.spec_table r _ _ excP excV 5 _ exc_v ?_ ?_).mono ?_
  · exact (Rain.lit w _ 7 _ excP _ (by simp) rfl rfl).below (On.alloc (On.refl _) _)
  · exact Rain.lit _ _ 7 _ excV _ (by simp) rfl rfl
  rintro e w1 ⟨rfl, k1⟩
  go_wp2_with fail
  go_ret
  refine ⟨rfl, On.trans ?_ k1⟩
  repeat (first | with_reducible exact On.refl _ | apply On.alloc)
set_option maxHeartbeats 1000000 in
theorem impl_exceedances (w : World) :
    Calls Tryd.prog 54 #[] w fun e w' => e = .returned (.slice (some ⟨w.heap.size, 0, none⟩) 7 7) ∧ On w w' ∧ Tab.Curve w' w.heap.size excP excV 7 ∧ w.heap.size < w'.heap.size := by
  go_enter Tryd.func54, Tryd.ntmps54
  go_wp2
  go_ret
  refine ⟨rfl, by repeat (first | with_reducible exact On.refl _ | apply On.alloc), fun k hk => ?_, by simp⟩
  match k, hk with
  | 0, _ => exact ⟨by rw [World.cell?_alloc_mark]; kernel_rfl, by rw [World.cell?_alloc_mark]; kernel_rfl⟩
  | 1, _ => exact ⟨by rw [World.cell?_alloc_mark]; kernel_rfl, by rw [World.cell?_alloc_mark]; kernel_rfl⟩
  | 2, _ => exact ⟨by rw [World.cell?_alloc_mark]; kernel_rfl, by rw [World.cell?_alloc_mark]; kernel_rfl⟩
  | 3, _ => exact ⟨by rw [World.cell?_alloc_mark]; kernel_rfl, by rw [World.cell?_alloc_mark]; kernel_rfl⟩
  | 4, _ => exact ⟨by rw [World.cell?_alloc_mark]; kernel_rfl, by rw [World.cell?_alloc_mark]; kernel_rfl⟩
  | 5, _ => exact ⟨by rw [World.cell?_alloc_mark]; kernel_rfl, by rw [World.cell?_alloc_mark]; kernel_rfl⟩
  | 6, _ => exact ⟨by rw [World.cell?_alloc_mark]; kernel_rfl, by rw [World.cell?_alloc_mark]; kernel_rfl⟩
theorem impl_exc (r : Int) (b : Nat) (w : World) (hc : Tab.Curve w b excP excV 7) :
    Calls Tryd.prog 55 #[.slice (some ⟨b, 0, none⟩) 7 7, .int .i64 r] w fun e w' => e = .returned (.int .i64 (excS r)) ∧ On w w' := Tab.impl_valueAt r b excP excV 7 5 w exc_v rfl hc
set_option maxHeartbeats 1000000 in
theorem spec_fade (f d c m : Int) (w : World) (f0 : 1 ≤ f) (f1 : f ≤ 100000000) (d0 : 1 ≤ d) (d1 : d ≤ 283000) (c0 : 25 ≤ c) (c1 : c ≤ 400) (m0 : 0 ≤ m) (m1 : m ≤ 100000) :
    Calls Tryd.prog 46 #[.int .i64 f, .int .i64 d, .int .i64 c, .int .i64 m] w fun e w' => e = .returned (.int .i64 (fadeV f d c m)) ∧ w = w' := by
  have hx0 : 0 ≤ f / 1000 := by omega
  obtain ⟨z0, z1⟩ := hz_bd f1
  obtain ⟨a0, a1⟩ := log_six (n := c) (by omega) (by omega)
  obtain ⟨b0, b1⟩ := log_six (n := hz f) (by omega) (by omega)
  obtain ⟨e0, e1⟩ := log_six (n := d) (by omega) (by omega)
  obtain ⟨x0, x1⟩ := xV_bd (m := m) f1 d0 d1 c0 c1 m0 m1
  have eX : xV f d c m = logDb c + logDb (hz f) + 3 * logDb d - 142218 - m := rfl
  rw [eX] at x0 x1
  have HC := Lib.hid (fun w => Log.spec_logI c w (by omega) (by omega))
  have HF := Lib.hid (fun w => Log.spec_logI (hz f) w (by omega) (by omega))
  have HD := Lib.hid (fun w => Log.spec_logI d w (by omega) (by omega))
  have HM := Lib.hid (fun w => show Calls Tryd.prog 87 #[.int .i64 1, .int .i64 (f / 1000)] w fun e w' => e = .returned (.int .i64 (hz f)) ∧ w = w' from by have := Free.spec_max 1 (f / 1000) w; rw [max_hz] at this; exact this)
  have eN := fade_neg (f := f) (d := d) (c := c) (m := m)
  have eP := fade_pos (f := f) (d := d) (c := c) (m := m)
  rw [eX] at eN eP
  have HP := fun w => Pow.spec_pow (logDb c + logDb (hz f) + 3 * logDb d - 142218 - m) w (by omega)
  have HQ := fun h => powDb_yes (v := logDb c + logDb (hz f) + 3 * logDb d - 142218 - m) h (by omega)
  generalize fadeV f d c m = V at *
  clear eX
  generalize logDb c = A at *
  generalize logDb (hz f) = B at *
  generalize logDb d = E at *
  by_cases hn : A + B + 3 * E - 142218 - m < 0
  · have en := Lib.hid (eN hn)
    clear eN eP HP HQ
    go_enter Tryd.func46, Tryd.ntmps46
    go_wp2_with fail
    refine (HC.out _).mono ?_
    rintro e w1 ⟨rfl, rfl⟩
    go_wp2_with fail
    refine (HM.out _).mono ?_
    rintro e w1 ⟨rfl, rfl⟩
    go_wp2_with fail
    refine (HF.out _).mono ?_
    rintro e w1 ⟨rfl, rfl⟩
    go_wp2_with fail
    refine (HD.out _).mono ?_
    rintro e w1 ⟨rfl, rfl⟩
    go_wp2_with fail
    go_ret
    exact ⟨ret_int en.out.symm, rfl⟩
  · have en := Lib.hid (eP hn)
    have HP' := Lib.hid HP
    rw [HQ (by omega), ← smin_top] at en
    clear eN eP HP HQ
    go_enter Tryd.func46, Tryd.ntmps46
    go_wp2_with fail
    refine (HC.out _).mono ?_
    rintro e w1 ⟨rfl, rfl⟩
    go_wp2_with fail
    refine (HM.out _).mono ?_
    rintro e w1 ⟨rfl, rfl⟩
    go_wp2_with fail
    refine (HF.out _).mono ?_
    rintro e w1 ⟨rfl, rfl⟩
    go_wp2_with fail
    refine (HD.out _).mono ?_
    rintro e w1 ⟨rfl, rfl⟩
    go_wp2_with fail
    refine (HP'.out _).mono ?_
    rintro e w1 ⟨rfl, rfl⟩
    go_wp2_with fail
    refine (Turn.spec_min _ _ _).mono ?_
    rintro e w1 ⟨rfl, rfl⟩
    go_wp2_with fail
    go_ret
    exact ⟨ret_int en.out.symm, rfl⟩
set_option maxHeartbeats 1000000 in
theorem impl_fade (f d c m : Int) (w : World) (f0 : 1 ≤ f) (f1 : f ≤ 100000000) (d0 : 1 ≤ d) (d1 : d ≤ 283000) (c0 : 25 ≤ c) (c1 : c ≤ 400) (m0 : 0 ≤ m) (m1 : m ≤ 100000) :
    Calls Tryd.prog 48 #[.int .i64 f, .int .i64 d, .int .i64 c, .int .i64 m] w fun e w' => e = .returned (.int .i64 (fadeV f d c m)) ∧ On w w' := by
  have hx0 : 0 ≤ f / 1000 := by omega
  obtain ⟨z0, z1⟩ := hz_bd f1
  obtain ⟨a0, a1⟩ := log_six (n := c) (by omega) (by omega)
  obtain ⟨b0, b1⟩ := log_six (n := hz f) (by omega) (by omega)
  obtain ⟨e0, e1⟩ := log_six (n := d) (by omega) (by omega)
  obtain ⟨x0, x1⟩ := xV_bd (m := m) f1 d0 d1 c0 c1 m0 m1
  have eX : xV f d c m = logDb c + logDb (hz f) + 3 * logDb d - 142218 - m := rfl
  rw [eX] at x0 x1
  have HC := Lib.hid (fun w => Log.impl_logDb c w (by omega))
  have HF := Lib.hid (fun w => Log.impl_logDb (hz f) w (by omega))
  have HD := Lib.hid (fun w => Log.impl_logDb d w (by omega))
  have HM := Lib.hid (fun w => show Calls Tryd.prog 91 #[.int .i64 1, .int .i64 (f / 1000)] w fun e w' => e = .returned (.int .i64 (hz f)) ∧ w = w' from by have := Turn.impl_greatest 1 (f / 1000) w; rw [gmax_hz] at this; exact this)
  have en := fade_any f d c m
  rw [eX, ← gmin_top] at en
  generalize fadeV f d c m = V at *
  clear eX
  generalize logDb c = A at *
  generalize logDb (hz f) = B at *
  generalize logDb d = E at *
  rw [show A + B + 3 * E - 142218 - m = A + B + 3 * E + -142218 - m by omega] at en
  have HP := Lib.hid (fun w => Pow.impl_powDb (A + B + 3 * E + -142218 - m) w)
  have EN := Lib.hid en
  clear en
  go_enter Tryd.func48, Tryd.ntmps48
  go_wp2_with fail
  refine (HM.out _).mono ?_
  rintro e w1 ⟨rfl, rfl⟩
  go_wp2_with fail
  refine (HC.out _).mono ?_
  rintro e w1 ⟨rfl, k1⟩
  have O1 := Lib.hid k1
  clear k1
  go_wp2_with fail
  refine (HF.out _).mono ?_
  rintro e w2 ⟨rfl, k2⟩
  have O2 := Lib.hid (On.trans O1.out k2)
  clear k2
  go_wp2_with fail
  refine (HD.out _).mono ?_
  rintro e w3 ⟨rfl, k3⟩
  have O3 := Lib.hid (On.trans O2.out k3)
  clear k3
  go_wp2_with fail
  refine (HP.out _).mono ?_
  rintro e w4 ⟨rfl, k4⟩
  have O4 := Lib.hid (On.trans O3.out k4)
  clear k4
  go_wp2_with fail
  refine (Turn.impl_least _ _ _).mono ?_
  rintro e w5 ⟨rfl, rfl⟩
  go_wp2_with fail
  go_ret
  exact ⟨ret_int EN.out.symm, O4.out⟩
set_option maxRecDepth 100000 in
set_option maxHeartbeats 1000000 in
theorem spec_rain (f d m : Int) (w : World) (f0 : 1 ≤ f) (f1 : f ≤ 100000000) (d0 : 1 ≤ d) (d1 : d ≤ 283000) :
    Calls Tryd.prog 56 #[.int .i64 f, .int .i64 d, .int .i64 m] w fun e w' => e = .returned (.int .i64 (wetV f d m)) ∧ On w w' := by
  go_enter Tryd.func56, Tryd.ntmps56
  go_wp2_with fail
  go_loopw [7] (fun i wr => ∃ k : Nat, k ≤ 201 ∧ i = .int .i64 k ∧ (∀ j, j < k → wetP f d m j = true) ∧ On w wr) (fun i _ => 201 - (intOf i).toNat)
  case atStart => exact ⟨0, Nat.zero_le _, rfl, fun j h => by omega, On.refl _⟩
  case round =>
    obtain ⟨k, hk, rfl, hall, ho⟩ := hrel
    have HA := Lib.hid hall
    have O := Lib.hid ho
    clear hall ho
    by_cases hlt : k < 201
    · have hlti : (k : Int) < 201 := by omega
      have hltj : (k : Int) ≤ 200 := by omega
      have HW := Lib.hid (fun w => Rain.spec_wet f (k : Int) d w (by omega) f1 (by omega) (by omega) d0 d1)
      by_cases hq : m < rainL f (k : Int) d
      · have en := Lib.hid (wet_at hlt HA.out (wet_no hq))
        generalize rainL f (k : Int) d = L at *
        go_wp2_with fail
        refine (HW.out _).mono ?_
        rintro e w1 ⟨rfl, k1⟩
        have O1 := Lib.hid (On.trans O.out k1)
        clear k1
        go_wp2_with fail
        refine (spec_exceed (k : Int) _).mono ?_
        rintro e w2 ⟨rfl, k2⟩
        go_wp2_with fail
        go_ret
        exact ⟨ret_int en.out.symm, On.trans O1.out k2⟩
      · have HS := Lib.hid (allP_succ HA.out (wet_yes hq))
        generalize rainL f (k : Int) d = L at *
        go_wp2_with fail
        refine (HW.out _).mono ?_
        rintro e w1 ⟨rfl, k1⟩
        have O1 := Lib.hid (On.trans O.out k1)
        clear k1
        go_wp2_with fail
        go_roundw
        case rel => exact ⟨k + 1, by omega, by go_num, HS.out, O1.out⟩
        case measure => simp [intOf]; omega
    · obtain rfl : k = 201 := by omega
      have en := Lib.hid (wet_none HA.out)
      go_wp2_with fail
      go_ret
      exact ⟨ret_int en.out.symm, O.out⟩
set_option maxRecDepth 100000 in
set_option maxHeartbeats 1000000 in
theorem impl_rain (f d m : Int) (w : World) (f0 : 1 ≤ f) (f1 : f ≤ 100000000) (d0 : 1 ≤ d) (d1 : d ≤ 283000) :
    Calls Tryd.prog 57 #[.int .i64 f, .int .i64 d, .int .i64 m] w fun e w' => e = .returned (.int .i64 (wetV f d m)) ∧ On w w' := by
  go_enter Tryd.func57, Tryd.ntmps57
  go_wp2_with fail
  go_loopw [8] (fun i wr => ∃ k : Nat, k ≤ 201 ∧ i = .int .i64 k ∧ (∀ j, j < k → wetP f d m j = true) ∧ On w wr) (fun i _ => 201 - (intOf i).toNat)
  case atStart => exact ⟨0, Nat.zero_le _, rfl, fun j h => by omega, On.refl _⟩
  case round =>
    obtain ⟨k, hk, rfl, hall, ho⟩ := hrel
    have HA := Lib.hid hall
    have O := Lib.hid ho
    clear hall ho
    by_cases hlt : k < 201
    · have hlti : (k : Int) < 201 := by omega
      have hltj : (k : Int) ≤ 200 := by omega
      have HW := Lib.hid (fun w => Rain.impl_wet f (k : Int) d w (by omega) f1 (by omega) (by omega) d0 d1)
      by_cases hq : m < rainL f (k : Int) d
      · have en := Lib.hid (wet_at hlt HA.out (wet_no hq))
        generalize rainL f (k : Int) d = L at *
        go_wp2_with fail
        refine (HW.out _).mono ?_
        rintro e w1 ⟨rfl, k1⟩
        have O1 := Lib.hid (On.trans O.out k1)
        clear k1
        go_wp2_with fail
        refine (impl_exceedances _).mono ?_
        rintro e w2 ⟨rfl, k2, q2, z2⟩
        have O2 := Lib.hid (On.trans O1.out k2)
        have Q2 := Lib.hid q2
        clear k2 q2
        go_wp2_with fail
        refine (impl_exc (k : Int) _ _ Q2.out).mono ?_
        rintro e w3 ⟨rfl, k3⟩
        go_wp2_with fail
        go_ret
        exact ⟨ret_int en.out.symm, On.trans O2.out k3⟩
      · have HS := Lib.hid (allP_succ HA.out (wet_yes hq))
        generalize rainL f (k : Int) d = L at *
        go_wp2_with fail
        refine (HW.out _).mono ?_
        rintro e w1 ⟨rfl, k1⟩
        have O1 := Lib.hid (On.trans O.out k1)
        clear k1
        go_wp2_with fail
        go_roundw
        case rel => exact ⟨k + 1, by omega, by go_num, HS.out, O1.out⟩
        case measure => simp [intOf]; omega
    · obtain rfl : k = 201 := by omega
      have en := Lib.hid (wet_none HA.out)
      go_wp2_with fail
      go_ret
      exact ⟨ret_int en.out.symm, O.out⟩
end Go.Proofs.YtafhphceojamoaaDoor.Fade
