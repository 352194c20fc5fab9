
/-
  The least level for a mode, in the model and in the program. Condition: at most 1048576 modes, and bytes in the name.
-/
import Derived.Test.YtknggnchldcghacDoorRadBest
import Derived.Deep.RegionWith
namespace Go.Proofs.YtknggnchldcghacDoor.Rad
open Go.RowKit
open Plain
open Modes (Pairs)
open Err (errV own ErrVar)
open Chk (errIf gainS lossS levelS)
open Ints (Ints)

/-- Whether a number is the index of a mode. -/
def moB (zs : List (Int × Int)) (mo : Int) : Bool := inB mo 0 ((zs.length : Int) - 1)
def leastV (zs : List (Int × Int)) (mo x2 x3 x4 : Int) : Int := at0 zs mo.toNat + floorV x3 x4 + x2
theorem need_bd {zs : List (Int × Int)} (h : modesB zs = true) {k : Nat} (hk : k < zs.length) : -50000 ≤ at0 zs k ∧ at0 zs k ≤ 100000 := by
  have := (of_modes h).2 k hk
  unfold stepB at this
  rw [Bool.and_eq_true] at this
  exact of_inB this.1
theorem mo_nat {zs : List (Int × Int)} {mo : Int} (h : moB zs mo = true) : ∃ k : Nat, mo = (k : Int) ∧ k < zs.length ∧ mo.toNat = k := by
  obtain ⟨h1, h2⟩ := of_inB h
  exact ⟨mo.toNat, by omega, by omega, rfl⟩
set_option maxRecDepth 100000 in
set_option maxHeartbeats 4000000 in
theorem spec_LeastLevel (x0 : ByteArray) (x1 x2 x3 x4 : Int) (v5 : Value) (z5 : List (Int × Int)) (mo : Int) (w : World) (q0 : x0.size ≤ 1048576) (q5 : z5.length ≤ 1048576) (h5 : Pairs w v5 z5) :
    Calls Tryd.prog 31 #[.agg #[.string x0, .int .i64 x1, .int .i64 x2, .int .i64 x3, .int .i64 x4, v5], .int .i64 mo] w fun e w' => e = .returned (.tuple #[.int .i64 (v2 (okR x0 x1 x2 x3 x4 z5) (moB z5 mo) (leastV z5 mo x2 x3 x4)), .int .i64 (c2 (okR x0 x1 x2 x3 x4 z5) (moB z5 mo))]) ∧ On w w' := by
  have HO := Lib.hid (fun w' (hb : On w w') hp => spec_ok w.heap.size x0 x1 x2 x3 x4 v5 z5 w' q0 q5 hp (h5.below hb))
  have h5' := h5
  obtain ⟨a5, cap5, rfl, -⟩ := h5
  obtain ⟨n, hn⟩ : ∃ n, n = z5.length := ⟨_, rfl⟩
  have HM := Lib.hid (fun g w' hp => spec_mode g x0 x1 x2 x3 x4 a5 z5.length cap5 mo w' q5 hp)
  rw [← hn] at HM
  cases hok : okR x0 x1 x2 x3 x4 z5 with
  | false =>
    rw [hok] at HO
    rw [← hn] at HO ⊢
    have en := Lib.hid (show v2 false (moB z5 mo) (leastV z5 mo x2 x3 x4) = 0 ∧ c2 false (moB z5 mo) = 1 from ⟨rfl, rfl⟩)
    clear h5' hn
    go_enter Tryd.func31, Tryd.ntmps31
    go_wp2_with fail
    refine (HO.out _ (by repeat (first | with_reducible exact On.refl _ | apply On.alloc)) ⟨by simp [go_sem], by simp [go_sem], by simp [go_sem], by simp [go_sem], by simp [go_sem], by simp [go_sem]⟩).mono ?_
    rintro e w1 ⟨rfl, h1⟩
    have P1 : In w1 w.heap.size x0 x1 x2 x3 x4 (.slice a5 n cap5) := In.on ⟨by simp [go_sem], by simp [go_sem], by simp [go_sem], by simp [go_sem], by simp [go_sem], by simp [go_sem]⟩ h1
    have HO1 := Lib.hid (On.trans (On.alloc (On.refl w) _) h1)
    have HP1 := Lib.hid P1
    obtain ⟨p0, p1, p2, p3, p4, p5⟩ := P1
    have z1 : w.heap.size < w1.heap.size := World.block_lt_of_cell? w1 _ p0
    clear h1
    go_wp2_with fail
    go_ret2
    exact ⟨ret_ii en.out.1.symm en.out.2.symm, HO1.out⟩
  | true =>
    rw [hok] at HO
    cases d0 : moB z5 mo with
    | false =>
      rw [← hn] at HO ⊢
      have d1 : inB mo 0 ((n : Int) - 1) = false := by rw [hn]; exact d0
      rw [d1] at HM
      have en := Lib.hid (show v2 true false (leastV z5 mo x2 x3 x4) = 0 ∧ c2 true false = 2 from ⟨rfl, rfl⟩)
      clear h5' hn d0
      go_enter Tryd.func31, Tryd.ntmps31
      go_wp2_with fail
      refine (HO.out _ (by repeat (first | with_reducible exact On.refl _ | apply On.alloc)) ⟨by simp [go_sem], by simp [go_sem], by simp [go_sem], by simp [go_sem], by simp [go_sem], by simp [go_sem]⟩).mono ?_
      rintro e w1 ⟨rfl, h1⟩
      have P1 : In w1 w.heap.size x0 x1 x2 x3 x4 (.slice a5 n cap5) := In.on ⟨by simp [go_sem], by simp [go_sem], by simp [go_sem], by simp [go_sem], by simp [go_sem], by simp [go_sem]⟩ h1
      have HO1 := Lib.hid (On.trans (On.alloc (On.refl w) _) h1)
      have HP1 := Lib.hid P1
      obtain ⟨p0, p1, p2, p3, p4, p5⟩ := P1
      have z1 : w.heap.size < w1.heap.size := World.block_lt_of_cell? w1 _ p0
      clear h1
      go_wp2_with fail
      refine (HM.out _ _ HP1.out).mono ?_
      rintro e w2 ⟨rfl, rfl⟩
      go_wp2_with fail
      go_ret2
      exact ⟨ret_ii en.out.1.symm en.out.2.symm, HO1.out⟩
    | true =>
      have d1 : inB mo 0 ((n : Int) - 1) = true := by rw [hn]; exact d0
      rw [d1] at HM
      obtain ⟨k, rfl, hk, hkk⟩ := mo_nat d0
      obtain ⟨-, ⟨b1, b2⟩, ⟨f1, f2⟩, ⟨r1, r2⟩, ⟨y1, y2⟩, hm⟩ := of_okR hok
      obtain ⟨b, off, rfl, hb, hc⟩ := Modes.slice_of h5' (by omega)
      have c1 := (get_at0 rfl hc hk).1
      obtain ⟨t1, t2⟩ := need_bd hm hk
      have n8 := (of_modes hm).1.2
      have en := Lib.hid (show v2 true true (leastV z5 (k : Int) x2 x3 x4) = at0 z5 k + floorV x3 x4 + x2 ∧ c2 true true = 0 from ⟨by rw [← hkk]; rfl, rfl⟩)
      have HL := Lib.hid (fun w' (h : On w w') hp => spec_least w.heap.size x0 x1 x2 x3 x4 b off n cap5 k (at0 z5 k) w' (by omega) (by omega) (h.lts _ hb) ((h.cell (by exact hb)).trans c1) t1 t2 f1 f2 r1 r2 y1 y2 hp)
      rw [← hn] at HO ⊢
      generalize at0 z5 k + floorV x3 x4 + x2 = v at *
      clear h5' hn d0 c1 hc hm
      go_enter Tryd.func31, Tryd.ntmps31
      go_wp2_with fail
      refine (HO.out _ (by repeat (first | with_reducible exact On.refl _ | apply On.alloc)) ⟨by simp [go_sem], by simp [go_sem], by simp [go_sem], by simp [go_sem], by simp [go_sem], by simp [go_sem]⟩).mono ?_
      rintro e w1 ⟨rfl, h1⟩
      have P1 : In w1 w.heap.size x0 x1 x2 x3 x4 (.slice (some ⟨b, off, none⟩) n cap5) := In.on ⟨by simp [go_sem], by simp [go_sem], by simp [go_sem], by simp [go_sem], by simp [go_sem], by simp [go_sem]⟩ h1
      have HO1 := Lib.hid (On.trans (On.alloc (On.refl w) _) h1)
      have HP1 := Lib.hid P1
      obtain ⟨p0, p1, p2, p3, p4, p5⟩ := P1
      have z1 : w.heap.size < w1.heap.size := World.block_lt_of_cell? w1 _ p0
      clear h1
      go_wp2_with fail
      refine (HM.out _ _ HP1.out).mono ?_
      rintro e w2 ⟨rfl, rfl⟩
      go_wp2_with fail
      refine (HL.out _ HO1.out HP1.out).mono ?_
      rintro e w2 ⟨rfl, h2⟩
      have HO2 := Lib.hid (HO1.out.trans h2)
      go_wp2_with fail
      go_ret2
      exact ⟨ret_ii en.out.1.symm en.out.2.symm, HO2.out⟩
set_option maxRecDepth 100000 in
set_option maxHeartbeats 4000000 in
theorem impl_LeastLevel (x0 : ByteArray) (x1 x2 x3 x4 : Int) (v5 : Value) (z5 : List (Int × Int)) (mo : Int) (w : World) (q0 : x0.size ≤ 1048576) (q5 : z5.length ≤ 1048576) (h5 : Pairs w v5 z5) (hg : ErrVar w) :
    Calls Tryd.prog 32 #[.agg #[.string x0, .int .i64 x1, .int .i64 x2, .int .i64 x3, .int .i64 x4, v5], .int .i64 mo] w fun e w' => e = .returned (.tuple #[.int .i64 (v2 (okR x0 x1 x2 x3 x4 z5) (moB z5 mo) (leastV z5 mo x2 x3 x4)), .int .i64 (c2 (okR x0 x1 x2 x3 x4 z5) (moB z5 mo))]) ∧ On w w' := by
  have CR := Lib.hid (fun b cap w' (hb : On w w') hp => check_radios b cap x0 x1 x2 x3 x4 v5 z5 w' q0 q5 (h5.below hb) hp)
  have CM := Lib.hid (fun w' (hb : On w w') => check_mode x0 x1 x2 x3 x4 v5 z5 mo w' q5 (h5.below hb))
  have h5' := h5
  obtain ⟨a5, cap5, rfl, -⟩ := h5
  have f63 := field63
  clear q0 q5
  rw [show inB mo 0 ((z5.length : Int) - 1) = moB z5 mo from rfl] at CM
  cases hok : okR x0 x1 x2 x3 x4 z5 with
  | false =>
    rw [hok] at CR
    have CR1 := Lib.hid (fun b cap w' hb hp => show Calls Tryd.prog 48 #[.slice (some ⟨b, 0, none⟩) 1 cap] w' fun e w'' => e = .returned (own radioS 1) ∧ On w' w'' from CR.out b cap w' hb hp)
    cases d0 : moB z5 mo with
    | false =>
      rw [d0] at CM
      have CM1 := Lib.hid (fun w' hb => show Calls Tryd.prog 65 #[.agg #[.string x0, .int .i64 x1, .int .i64 x2, .int .i64 x3, .int .i64 x4, (.slice a5 z5.length cap5)], .int .i64 mo] w' fun e w'' => e = .returned (own modeS 2) ∧ On w' w'' from CM.out w' hb)
      have en := Lib.hid (show v2 false false (leastV z5 mo x2 x3 x4) = 0 ∧ c2 false false = 1 from ⟨rfl, rfl⟩)
      clear h5'
      generalize z5.length = n at *
      unfold own radioS modeS at *
      go_enter Tryd.func32, Tryd.ntmps32
      go_wp2_with fail
      go_region_with (first
        | (go_at_call 48; refine (CR1.out _ _ _ (by repeat (first | with_reducible exact On.refl _ | apply On.drew | apply On.alloc)) ⟨by simp [go_sem], by simp [go_sem], by simp [go_sem], by simp [go_sem], by simp [go_sem], by simp [go_sem]⟩).mono ?_; rintro e w1 ⟨rfl, h1⟩; (have h01 : On w w1 := by refine On.trans ?_ h1; repeat (first | with_reducible exact On.refl _ | apply On.drew | apply On.alloc)); (have P1 : In w1 w.heap.size x0 x1 x2 x3 x4 (.slice a5 n cap5) := In.on ⟨by simp [go_sem], by simp [go_sem], by simp [go_sem], by simp [go_sem], by simp [go_sem], by simp [go_sem]⟩ h1); have HP1 := Lib.hid P1; obtain ⟨p0, p1, p2, p3, p4, p5⟩ := P1; have z1 : w.heap.size < w1.heap.size := World.block_lt_of_cell? w1 _ p0; have z1n := Nat.ne_of_lt z1; clear h1)
        | (go_at_call 65; refine (CM1.out _ (On.trans ‹On w w1› (by repeat (first | with_reducible exact On.refl _ | apply On.drew | apply On.alloc)))).mono ?_; rintro e w2 ⟨rfl, h2⟩; (have h12 : On w1 w2 := by refine On.trans ?_ h2; repeat (first | with_reducible exact On.refl _ | apply On.drew | apply On.alloc)); (have h02 : On w w2 := On.trans ‹On w w1› h12); (have P2 : In w2 w.heap.size x0 x1 x2 x3 x4 (.slice a5 n cap5) := HP1.out.on h12); have HP2 := Lib.hid P2; obtain ⟨u0, u1, u2, u3, u4, u5⟩ := P2; have z2 : w.heap.size < w2.heap.size := World.block_lt_of_cell? w2 _ u0; have z2n := Nat.ne_of_lt z2; clear h2)
        | (go_at_call 47; refine (Err.first_EE _ _ radioS 1 modeS 2 _ (hg.on (On.trans ‹On w w2› (by repeat (first | with_reducible exact On.refl _ | apply On.drew | apply On.alloc)))) (by simp [go_sem, own, radioS]) (by simp [go_sem, own, modeS])).mono ?_; rintro e wc ⟨rfl, hc⟩; (have h2c : On w2 wc := by refine On.trans ?_ hc; repeat (first | with_reducible exact On.refl _ | apply On.drew | apply On.alloc)); (have Pc : In wc w.heap.size x0 x1 x2 x3 x4 (.slice a5 n cap5) := HP2.out.on h2c); have HOc := Lib.hid (On.trans ‹On w w2› h2c); obtain ⟨s0, s1, s2, s3, s4, s5⟩ := Pc; clear hc))
      all_goals
        go_wp2_with fail
        go_ret2
        exact ⟨ret_ii en.out.1.symm en.out.2.symm, HOc.out⟩
    | true =>
      rw [d0] at CM
      have CM1 := Lib.hid (fun w' hb => show Calls Tryd.prog 65 #[.agg #[.string x0, .int .i64 x1, .int .i64 x2, .int .i64 x3, .int .i64 x4, (.slice a5 z5.length cap5)], .int .i64 mo] w' fun e w'' => e = .returned .nilIface ∧ On w' w'' from CM.out w' hb)
      have en := Lib.hid (show v2 false true (leastV z5 mo x2 x3 x4) = 0 ∧ c2 false true = 1 from ⟨rfl, rfl⟩)
      clear h5'
      generalize z5.length = n at *
      unfold own radioS at *
      go_enter Tryd.func32, Tryd.ntmps32
      go_wp2_with fail
      go_region_with (first
        | (go_at_call 48; refine (CR1.out _ _ _ (by repeat (first | with_reducible exact On.refl _ | apply On.drew | apply On.alloc)) ⟨by simp [go_sem], by simp [go_sem], by simp [go_sem], by simp [go_sem], by simp [go_sem], by simp [go_sem]⟩).mono ?_; rintro e w1 ⟨rfl, h1⟩; (have h01 : On w w1 := by refine On.trans ?_ h1; repeat (first | with_reducible exact On.refl _ | apply On.drew | apply On.alloc)); (have P1 : In w1 w.heap.size x0 x1 x2 x3 x4 (.slice a5 n cap5) := In.on ⟨by simp [go_sem], by simp [go_sem], by simp [go_sem], by simp [go_sem], by simp [go_sem], by simp [go_sem]⟩ h1); have HP1 := Lib.hid P1; obtain ⟨p0, p1, p2, p3, p4, p5⟩ := P1; have z1 : w.heap.size < w1.heap.size := World.block_lt_of_cell? w1 _ p0; have z1n := Nat.ne_of_lt z1; clear h1)
        | (go_at_call 65; refine (CM1.out _ (On.trans ‹On w w1› (by repeat (first | with_reducible exact On.refl _ | apply On.drew | apply On.alloc)))).mono ?_; rintro e w2 ⟨rfl, h2⟩; (have h12 : On w1 w2 := by refine On.trans ?_ h2; repeat (first | with_reducible exact On.refl _ | apply On.drew | apply On.alloc)); (have h02 : On w w2 := On.trans ‹On w w1› h12); (have P2 : In w2 w.heap.size x0 x1 x2 x3 x4 (.slice a5 n cap5) := HP1.out.on h12); have HP2 := Lib.hid P2; obtain ⟨u0, u1, u2, u3, u4, u5⟩ := P2; have z2 : w.heap.size < w2.heap.size := World.block_lt_of_cell? w2 _ u0; have z2n := Nat.ne_of_lt z2; clear h2)
        | (go_at_call 47; refine (Err.first_EN _ _ radioS 1 _ (hg.on (On.trans ‹On w w2› (by repeat (first | with_reducible exact On.refl _ | apply On.drew | apply On.alloc)))) (by simp [go_sem, own, radioS]) (by simp [go_sem])).mono ?_; rintro e wc ⟨rfl, hc⟩; (have h2c : On w2 wc := by refine On.trans ?_ hc; repeat (first | with_reducible exact On.refl _ | apply On.drew | apply On.alloc)); (have Pc : In wc w.heap.size x0 x1 x2 x3 x4 (.slice a5 n cap5) := HP2.out.on h2c); have HOc := Lib.hid (On.trans ‹On w w2› h2c); obtain ⟨s0, s1, s2, s3, s4, s5⟩ := Pc; clear hc))
      all_goals
        go_wp2_with fail
        go_ret2
        exact ⟨ret_ii en.out.1.symm en.out.2.symm, HOc.out⟩
  | true =>
    rw [hok] at CR
    have CR1 := Lib.hid (fun b cap w' hb hp => show Calls Tryd.prog 48 #[.slice (some ⟨b, 0, none⟩) 1 cap] w' fun e w'' => e = .returned .nilIface ∧ On w' w'' from CR.out b cap w' hb hp)
    cases d0 : moB z5 mo with
    | false =>
      rw [d0] at CM
      have CM1 := Lib.hid (fun w' hb => show Calls Tryd.prog 65 #[.agg #[.string x0, .int .i64 x1, .int .i64 x2, .int .i64 x3, .int .i64 x4, (.slice a5 z5.length cap5)], .int .i64 mo] w' fun e w'' => e = .returned (own modeS 2) ∧ On w' w'' from CM.out w' hb)
      have en := Lib.hid (show v2 true false (leastV z5 mo x2 x3 x4) = 0 ∧ c2 true false = 2 from ⟨rfl, rfl⟩)
      clear h5'
      generalize z5.length = n at *
      unfold own modeS at *
      go_enter Tryd.func32, Tryd.ntmps32
      go_wp2_with fail
      go_region_with (first
        | (go_at_call 48; refine (CR1.out _ _ _ (by repeat (first | with_reducible exact On.refl _ | apply On.drew | apply On.alloc)) ⟨by simp [go_sem], by simp [go_sem], by simp [go_sem], by simp [go_sem], by simp [go_sem], by simp [go_sem]⟩).mono ?_; rintro e w1 ⟨rfl, h1⟩; (have h01 : On w w1 := by refine On.trans ?_ h1; repeat (first | with_reducible exact On.refl _ | apply On.drew | apply On.alloc)); (have P1 : In w1 w.heap.size x0 x1 x2 x3 x4 (.slice a5 n cap5) := In.on ⟨by simp [go_sem], by simp [go_sem], by simp [go_sem], by simp [go_sem], by simp [go_sem], by simp [go_sem]⟩ h1); have HP1 := Lib.hid P1; obtain ⟨p0, p1, p2, p3, p4, p5⟩ := P1; have z1 : w.heap.size < w1.heap.size := World.block_lt_of_cell? w1 _ p0; have z1n := Nat.ne_of_lt z1; clear h1)
        | (go_at_call 65; refine (CM1.out _ (On.trans ‹On w w1› (by repeat (first | with_reducible exact On.refl _ | apply On.drew | apply On.alloc)))).mono ?_; rintro e w2 ⟨rfl, h2⟩; (have h12 : On w1 w2 := by refine On.trans ?_ h2; repeat (first | with_reducible exact On.refl _ | apply On.drew | apply On.alloc)); (have h02 : On w w2 := On.trans ‹On w w1› h12); (have P2 : In w2 w.heap.size x0 x1 x2 x3 x4 (.slice a5 n cap5) := HP1.out.on h12); have HP2 := Lib.hid P2; obtain ⟨u0, u1, u2, u3, u4, u5⟩ := P2; have z2 : w.heap.size < w2.heap.size := World.block_lt_of_cell? w2 _ u0; have z2n := Nat.ne_of_lt z2; clear h2)
        | (go_at_call 47; refine (Err.first_NE _ _ modeS 2 _ (hg.on (On.trans ‹On w w2› (by repeat (first | with_reducible exact On.refl _ | apply On.drew | apply On.alloc)))) (by simp [go_sem]) (by simp [go_sem, own, modeS])).mono ?_; rintro e wc ⟨rfl, hc⟩; (have h2c : On w2 wc := by refine On.trans ?_ hc; repeat (first | with_reducible exact On.refl _ | apply On.drew | apply On.alloc)); (have Pc : In wc w.heap.size x0 x1 x2 x3 x4 (.slice a5 n cap5) := HP2.out.on h2c); have HOc := Lib.hid (On.trans ‹On w w2› h2c); obtain ⟨s0, s1, s2, s3, s4, s5⟩ := Pc; clear hc))
      all_goals
        go_wp2_with fail
        go_ret2
        exact ⟨ret_ii en.out.1.symm en.out.2.symm, HOc.out⟩
    | true =>
      rw [d0] at CM
      have CM1 := Lib.hid (fun w' hb => show Calls Tryd.prog 65 #[.agg #[.string x0, .int .i64 x1, .int .i64 x2, .int .i64 x3, .int .i64 x4, (.slice a5 z5.length cap5)], .int .i64 mo] w' fun e w'' => e = .returned .nilIface ∧ On w' w'' from CM.out w' hb)
      obtain ⟨k, rfl, hk, hkk⟩ := mo_nat d0
      obtain ⟨-, ⟨b1, b2⟩, ⟨f1, f2⟩, ⟨r1, r2⟩, ⟨y1, y2⟩, hm⟩ := of_okR hok
      obtain ⟨b, off, rfl, hb, hc⟩ := Modes.slice_of h5' (by omega)
      have c1 := (get_at0 rfl hc hk).1
      obtain ⟨t1, t2⟩ := need_bd hm hk
      have n8 := (of_modes hm).1.2
      have en := Lib.hid (show v2 true true (leastV z5 (k : Int) x2 x3 x4) = at0 z5 k + floorV x3 x4 + x2 ∧ c2 true true = 0 from ⟨by rw [← hkk]; rfl, rfl⟩)
      have HL := Lib.hid (fun w' (h : On w w') => impl_leastLevel x2 x3 x4 b off z5.length cap5 k (at0 z5 k) w' hk n8 (h.lts _ hb) ((h.cell (by exact hb)).trans c1) t1 t2 f1 f2 r1 r2 y2)
      generalize at0 z5 k + floorV x3 x4 + x2 = v at *
      clear h5' d0 c1 hc hm t1 t2 hok
      generalize z5.length = n at *
      go_enter Tryd.func32, Tryd.ntmps32
      go_wp2_with fail
      go_region_with (first
        | (go_at_call 48; refine (CR1.out _ _ _ (by repeat (first | with_reducible exact On.refl _ | apply On.drew | apply On.alloc)) ⟨by simp [go_sem], by simp [go_sem], by simp [go_sem], by simp [go_sem], by simp [go_sem], by simp [go_sem]⟩).mono ?_; rintro e w1 ⟨rfl, h1⟩; (have h01 : On w w1 := by refine On.trans ?_ h1; repeat (first | with_reducible exact On.refl _ | apply On.drew | apply On.alloc)); (have P1 : In w1 w.heap.size x0 x1 x2 x3 x4 (.slice (some ⟨b, off, none⟩) n cap5) := In.on ⟨by simp [go_sem], by simp [go_sem], by simp [go_sem], by simp [go_sem], by simp [go_sem], by simp [go_sem]⟩ h1); have HP1 := Lib.hid P1; obtain ⟨p0, p1, p2, p3, p4, p5⟩ := P1; have z1 : w.heap.size < w1.heap.size := World.block_lt_of_cell? w1 _ p0; have z1n := Nat.ne_of_lt z1; clear h1)
        | (go_at_call 65; refine (CM1.out _ (On.trans ‹On w w1› (by repeat (first | with_reducible exact On.refl _ | apply On.drew | apply On.alloc)))).mono ?_; rintro e w2 ⟨rfl, h2⟩; (have h12 : On w1 w2 := by refine On.trans ?_ h2; repeat (first | with_reducible exact On.refl _ | apply On.drew | apply On.alloc)); (have h02 : On w w2 := On.trans ‹On w w1› h12); (have P2 : In w2 w.heap.size x0 x1 x2 x3 x4 (.slice (some ⟨b, off, none⟩) n cap5) := HP1.out.on h12); have HP2 := Lib.hid P2; obtain ⟨u0, u1, u2, u3, u4, u5⟩ := P2; have z2 : w.heap.size < w2.heap.size := World.block_lt_of_cell? w2 _ u0; have z2n := Nat.ne_of_lt z2; clear h2)
        | (go_at_call 47; refine (Err.first_NN _ _ _ (by simp [go_sem]) (by simp [go_sem])).mono ?_; rintro e wc ⟨rfl, hc⟩; (have h2c : On w2 wc := by refine On.trans ?_ hc; repeat (first | with_reducible exact On.refl _ | apply On.drew | apply On.alloc)); (have Pc : In wc w.heap.size x0 x1 x2 x3 x4 (.slice (some ⟨b, off, none⟩) n cap5) := HP2.out.on h2c); have HOc := Lib.hid (On.trans ‹On w w2› h2c); obtain ⟨s0, s1, s2, s3, s4, s5⟩ := Pc; clear hc))
      all_goals
        go_wp2_with fail
        refine (parts _ _ _ _ _ _ _ _ _).mono ?_
        rintro e wd ⟨rfl, hd⟩
        have HOd := Lib.hid (HOc.out.trans hd)
        go_wp2_with fail
        refine (HL.out _ HOd.out).mono ?_
        rintro e we ⟨rfl, he⟩
        go_wp2_with fail
        go_ret2
        exact ⟨ret_ii en.out.1.symm en.out.2.symm, HOd.out.trans he⟩
end Go.Proofs.YtknggnchldcghacDoor.Rad
