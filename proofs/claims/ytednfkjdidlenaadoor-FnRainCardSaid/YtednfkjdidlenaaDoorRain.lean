
/-
  Rain, gases and leaves, in the model and in the program. Conditions: each theorem's own.
-/
import Derived.Test.YtednfkjdidlenaaDoorTabAt
import Derived.Test.YtednfkjdidlenaaDoorPow
namespace Go.Proofs.YtednfkjdidlenaaDoor.Rain
open Go.RowKit
open Plain
open Ints (Ints)
open Tab (ret_int tabV)

/-- A literal of numbers. -/
theorem lit (w : World) (b n : Nat) (t : TypeId) (zs : List Int) (C : Array Value) (hb : b = w.heap.size) (hn : n = zs.length) (hC : C = (zs.map fun z => Value.int .i64 z).toArray) : Ints (w.alloc (.cells C t)) (.slice (some ⟨b, 0, none⟩) n n) zs := by
  subst hb hn hC
  refine ⟨_, _, rfl, fun _ => ⟨_, 0, rfl, by simp, fun i hi => ?_⟩⟩
  rw [Nat.zero_add, World.cell?_alloc_mark, List.getElem?_toArray, List.getElem?_map, List.getElem?_eq_getElem hi]
  simp [hi]
set_option maxHeartbeats 1000000 in
theorem impl_rain (f r : Int) (w : World) (f0 : 0 ≤ f) (f1 : f ≤ 100000000) (r0 : 0 ≤ r) (r1 : r ≤ 200) :
    Calls Tryd.prog 24 #[.int .i64 f, .int .i64 r] w fun e w' => e = .returned (.int .i64 (rainS f r)) ∧ On w w' := by
  by_cases hr : r = 0
  · subst hr
    have en := Lib.hid (rainS_zero f)
    go_enter Tryd.func24, Tryd.ntmps24
    go_wp2_with fail
    go_ret
    exact ⟨ret_int en.out.symm, by repeat (first | with_reducible exact On.refl _ | apply On.drewN | apply On.drew | apply On.alloc | refine On.setCell ?_ (by (try simp) <;> omega) _)⟩
  · have en := Lib.hid (rainS_some (f := f) hr)
    obtain ⟨b0, b1⟩ := rainF_bd f
    obtain ⟨b2, b3⟩ := rainG_bd f
    obtain ⟨p0, p1⟩ := rain_prod (f := f) (r := r) (by omega) r1
    obtain ⟨q0, q1⟩ := near_thousand p0 p1
    obtain ⟨l0, l1⟩ := logDb_rain (r := r) (by omega) r1
    have HL := Lib.hid (fun w => Log.impl_logDb r w (by omega))
    have eX := Lib.hid (show rainX f r = rainF f + 30000 + near (rainG f * logDb r) 1000 from rfl)
    rw [eX.out] at en
    have HP := Lib.hid (fun w => Pow.impl_powDb (rainF f + 30000 + near (rainG f * logDb r) 1000) w)
    have HD := Lib.hid (fun w => Arith.nearest (rainG f * logDb r) 1000 w (by omega) (by omega) (by omega) (by omega) (by omega))
    have HT1 := Lib.hid (fun b w hc => show Calls Tryd.prog 26 #[.slice (some ⟨b, 0, none⟩) 7 7, .int .i64 f] w fun e w' => e = .returned (.int .i64 (rainF f)) ∧ On w w' from Tab.impl_at f b rainP rainK 7 5 w Tab.rain_k rfl hc f0 f1)
    have HT2 := Lib.hid (fun b w hc => show Calls Tryd.prog 26 #[.slice (some ⟨b, 0, none⟩) 7 7, .int .i64 f] w fun e w' => e = .returned (.int .i64 (rainG f)) ∧ On w w' from Tab.impl_at f b rainP rainA 7 5 w Tab.rain_a rfl hc f0 f1)
    clear eX
    generalize rainF f = F at *
    generalize rainG f = G at *
    generalize logDb r = L at *
    generalize near (G * L) 1000 = Q at *
    go_enter Tryd.func24, Tryd.ntmps24
    go_wp2_with fail
    refine (Tab.impl_rainFactors _).mono ?_
    rintro e w1 ⟨rfl, k1, c1, z1⟩
    go_wp2_with fail
    refine (HT1.out _ _ c1).mono ?_
    rintro e w2 ⟨rfl, k2⟩
    have O2 := Lib.hid (On.trans k1 k2)
    clear k1 k2 c1 z1
    go_wp2_with fail
    refine (Tab.impl_rainExponents _).mono ?_
    rintro e w3 ⟨rfl, k3, c3, z3⟩
    go_wp2_with fail
    refine (HT2.out _ _ c3).mono ?_
    rintro e w4 ⟨rfl, k4⟩
    have O4 := Lib.hid (On.trans O2.out (On.trans k3 k4))
    clear k3 k4 c3 z3 O2
    go_wp2_with fail
    refine (HL.out _).mono ?_
    rintro e w5 ⟨rfl, k5⟩
    have O5 := Lib.hid (On.trans O4.out k5)
    clear k5 O4
    go_wp2_with fail
    refine (HD.out _).mono ?_
    rintro e w6 ⟨rfl, n6, rfl⟩
    go_wp2_with fail
    refine (HP.out _).mono ?_
    rintro e w7 ⟨rfl, k7⟩
    go_wp2_with fail
    go_ret
    exact ⟨ret_int en.out.symm, On.trans (On.drewN O5.out _) k7⟩
set_option maxHeartbeats 1000000 in
theorem impl_wet (f r d : Int) (w : World) (f0 : 0 ≤ f) (f1 : f ≤ 100000000) (r0 : 0 ≤ r) (r1 : r ≤ 200) (d0 : 1 ≤ d) (d1 : d ≤ 283000) :
    Calls Tryd.prog 22 #[.int .i64 f, .int .i64 r, .int .i64 d] w fun e w' => e = .returned (.int .i64 (rainL f r d)) ∧ On w w' := by
  have en := Lib.hid (show rainL f r d = near (rainS f r * d * rainE r) (1000 * (d + rainE r)) from rfl)
  obtain ⟨⟨a0, a1⟩, p0, p1⟩ := wet_prod (f := f) r0 r1 d0 d1
  obtain ⟨e0, e1⟩ := rainE_bd r0 r1
  obtain ⟨s0, s1⟩ := rainS_bd (f := f) r0 r1
  have HE := Lib.hid (fun w => show Calls Tryd.prog 27 #[.int .i64 35000000, .int .i64 (1000 + 15 * r)] w fun e w' => e = .returned (.int .i64 (rainE r)) ∧ ∃ n, w' = w.drewN n from Arith.nearest 35000000 (1000 + 15 * r) w (by omega) (by omega) (by omega) (by omega) (by omega))
  have HR := Lib.hid (fun w => impl_rain f r w f0 f1 r0 r1)
  generalize rainE r = E at *
  generalize rainS f r = S at *
  have HD := Lib.hid (fun w => Arith.nearest (S * d * E) (1000 * (d + E)) w (by omega) (by omega) (by omega) (by omega) (by omega))
  go_enter Tryd.func22, Tryd.ntmps22
  go_wp2_with fail
  refine (HE.out _).mono ?_
  rintro e w1 ⟨rfl, n1, rfl⟩
  go_wp2_with fail
  refine (HR.out _).mono ?_
  rintro e w2 ⟨rfl, k2⟩
  go_wp2_with fail
  refine (HD.out _).mono ?_
  rintro e w3 ⟨rfl, n3, rfl⟩
  go_wp2_with fail
  go_ret
  exact ⟨ret_int en.out.symm, On.drewN (On.trans (On.drewN (On.refl _) _) k2) _⟩
theorem impl_gas (f d : Int) (w : World) (f0 : 0 ≤ f) (f1 : f ≤ 100000000) (d0 : 1 ≤ d) (d1 : d ≤ 283000) :
    Calls Tryd.prog 21 #[.int .i64 f, .int .i64 d] w fun e w' => e = .returned (.int .i64 (gasL f d)) ∧ On w w' := by
  have en := Lib.hid (show gasL f d = near (gasS f * d) 1000 from rfl)
  obtain ⟨p0, p1⟩ := gas_prod (f := f) d0 d1
  have HT := Lib.hid (fun b w hc => show Calls Tryd.prog 26 #[.slice (some ⟨b, 0, none⟩) 9 9, .int .i64 f] w fun e w' => e = .returned (.int .i64 (gasS f)) ∧ On w w' from Tab.impl_at f b gasP gasV 9 7 w Tab.gas_v rfl hc f0 f1)
  generalize gasS f = G at *
  have HD := Lib.hid (fun w => Arith.nearest (G * d) 1000 w (by omega) (by omega) (by omega) (by omega) (by omega))
  go_enter Tryd.func21, Tryd.ntmps21
  go_wp2_with fail
  refine (Tab.impl_gases _).mono ?_
  rintro e w1 ⟨rfl, k1, c1, z1⟩
  go_wp2_with fail
  refine (HT.out _ _ c1).mono ?_
  rintro e w2 ⟨rfl, k2⟩
  go_wp2_with fail
  refine (HD.out _).mono ?_
  rintro e w3 ⟨rfl, n3, rfl⟩
  go_wp2_with fail
  go_ret
  exact ⟨ret_int en.out.symm, On.drewN (On.trans k1 k2) _⟩
end Go.Proofs.YtednfkjdidlenaaDoor.Rain
