
/-
  The functions of one radio, in the model and in the program. Condition: at most 1048576 modes, and bytes in the name.
-/
import Derived.Test.YtknggnchldcghacDoorChk
import Derived.Test.YtknggnchldcghacDoorLogDb
namespace Go.Proofs.YtknggnchldcghacDoor.Rad
open Go.RowKit
open Plain
open Modes (Pairs)
open Err (errV own ErrVar)
open Chk (errIf gainS lossS levelS)
open Ints (Ints)

theorem ret_ii {a b c d : Int} (h1 : a = b) (h2 : c = d) : Ending.returned (.tuple #[.int .i64 a, .int .i64 c]) = .returned (.tuple #[.int .i64 b, .int .i64 d]) := by rw [h1, h2]
theorem anySlice {w : World} {v : Value} {zs : List (Int × Int)} (h : Pairs w v zs) : ∃ a n c, v = .slice a n c := by obtain ⟨a, cap, hv, -⟩ := h; exact ⟨a, _, cap, hv⟩
def radioS : ByteArray := ⟨#[114, 97, 100, 105, 111]⟩
def modeS : ByteArray := ⟨#[109, 111, 100, 101]⟩
/-- The noise of a radio. -/
def floorV (x3 x4 : Int) : Int := logDb x4 - 144000 + x3
theorem floor_bd {x3 x4 : Int} (a0 : 0 ≤ x3) (a1 : x3 ≤ 30000) (b1 : x4 ≤ 100000) : -144000 ≤ floorV x3 x4 ∧ floorV x3 x4 ≤ 75999 := by
  have := logDb_bd (n := x4) (by omega)
  unfold floorV
  omega
theorem ints1 {W : World} {b cap : Nat} {g : Int} (h : W.cell? ⟨b, 0, none⟩ = some (.int .i64 g)) : Ints W (.slice (some ⟨b, 0, none⟩) 1 cap) [g] :=
  ⟨_, cap, rfl, fun _ => ⟨b, 0, rfl, World.block_lt_of_cell? W _ h, fun i hi => by
    have hi2 : i < 1 := by simpa using hi
    obtain rfl : i = 0 := by omega
    exact h⟩⟩
theorem ints2 {W : World} {b cap : Nat} {g k : Int} (h : W.cell? ⟨b, 0, none⟩ = some (.int .i64 g)) (h1 : W.cell? ⟨b, 1, none⟩ = some (.int .i64 k)) : Ints W (.slice (some ⟨b, 0, none⟩) 2 cap) [g, k] :=
  ⟨_, cap, rfl, fun _ => ⟨b, 0, rfl, World.block_lt_of_cell? W _ h, fun i hi => by
    have hi' : i < 2 := by simpa using hi
    have : i = 0 ∨ i = 1 := by omega
    rcases this with rfl | rfl
    · exact h
    · exact h1⟩⟩
set_option maxHeartbeats 2000000 in
theorem check_radios (b cap : Nat) (x0 : ByteArray) (x1 x2 x3 x4 : Int) (v5 : Value) (z5 : List (Int × Int)) (w : World) (q0 : x0.size ≤ 1048576) (q5 : z5.length ≤ 1048576) (h5 : Pairs w v5 z5) (hp : In w b x0 x1 x2 x3 x4 v5) :
    Calls Tryd.prog 48 #[.slice (some ⟨b, 0, none⟩) 1 cap] w fun e w' => e = .returned (errV (errIf radioS 1 (okR x0 x1 x2 x3 x4 z5))) ∧ On w w' := by
  have HV := Lib.hid (fun w' (hb : On w w') => impl_valid x0 x1 x2 x3 x4 v5 z5 w' q0 q5 (h5.below hb))
  obtain ⟨a5, n5, cap5, rfl⟩ := anySlice h5
  obtain ⟨k0, k1, k2, k3, k4, k5⟩ := hp
  cases hok : okR x0 x1 x2 x3 x4 z5 with
  | false =>
    rw [hok] at HV
    go_enter Tryd.func48, Tryd.ntmps48
    go_wp2_with fail
    refine wp_loop_rounds 2 ?_
    rw [rounds_succ]
    go_wp2_with fail
    refine (HV.out _ (by repeat (first | with_reducible exact On.refl _ | apply On.alloc))).mono ?_
    rintro e w1 ⟨rfl, h1⟩
    go_wp2_with fail
    go_ret
    exact ⟨rfl, On.trans (by repeat (first | with_reducible exact On.refl _ | apply On.alloc)) h1⟩
  | true =>
    rw [hok] at HV
    go_enter Tryd.func48, Tryd.ntmps48
    go_wp2_with fail
    refine wp_loop_rounds 2 ?_
    rw [rounds_succ]
    go_wp2_with fail
    refine (HV.out _ (by repeat (first | with_reducible exact On.refl _ | apply On.alloc))).mono ?_
    rintro e w1 ⟨rfl, h1⟩
    go_wp2_with fail
    rw [rounds_succ]
    go_wp2_with fail
    go_ret
    exact ⟨rfl, On.trans (by repeat (first | with_reducible exact On.refl _ | apply On.alloc)) h1⟩
theorem check_mode (x0 : ByteArray) (x1 x2 x3 x4 : Int) (v5 : Value) (z5 : List (Int × Int)) (mo : Int) (w : World) (q5 : z5.length ≤ 1048576) (h5 : Pairs w v5 z5) :
    Calls Tryd.prog 65 #[.agg #[.string x0, .int .i64 x1, .int .i64 x2, .int .i64 x3, .int .i64 x4, v5], .int .i64 mo] w fun e w' => e = .returned (errV (errIf modeS 2 (inB mo 0 ((z5.length : Int) - 1)))) ∧ On w w' := by
  obtain ⟨a5, cap5, rfl, -⟩ := h5
  obtain ⟨n, hn⟩ : ∃ n, n = z5.length := ⟨_, rfl⟩
  rw [← hn] at q5 ⊢
  clear hn
  have w1 : IntKind.i64.wrap ((n : Int) - 1) = (n : Int) - 1 := IntWalk.i64_in _ (by omega)
  cases hb : inB mo 0 ((n : Int) - 1) with
  | false =>
    go_enter Tryd.func65, Tryd.ntmps65
    go_wp2_with (go_at_call 88; refine (Arith.within _ _ _ _).mono ?_; rintro e w' ⟨rfl, rfl⟩)
    go_ret
    exact ⟨rfl, (by repeat (first | with_reducible exact On.refl _ | apply On.alloc))⟩
  | true =>
    go_enter Tryd.func65, Tryd.ntmps65
    go_wp2_with (go_at_call 88; refine (Arith.within _ _ _ _).mono ?_; rintro e w' ⟨rfl, rfl⟩)
    go_ret
    exact ⟨rfl, (by repeat (first | with_reducible exact On.refl _ | apply On.alloc))⟩
theorem parts (x0 : ByteArray) (x1 x2 x3 x4 : Int) (a5 : Option Addr) (n5 cap5 : Nat) (w : World) :
    Calls Tryd.prog 49 #[.agg #[.string x0, .int .i64 x1, .int .i64 x2, .int .i64 x3, .int .i64 x4, .slice a5 n5 cap5]] w fun e w' => e = .returned (.agg #[.int .i64 x2, .int .i64 x3, .int .i64 x4, .slice a5 n5 cap5, .int .i64 x1]) ∧ On w w' := by
  go_enter Tryd.func49, Tryd.ntmps49
  go_wp2_with fail
  refine bodyPost_ret (v := .agg #[.int .i64 x2, .int .i64 x3, .int .i64 x4, .slice a5 n5 cap5, .int .i64 x1]) (by simp [results, Tryd.results49, go_sem]) rfl ⟨rfl, ?_⟩
  repeat (first | with_reducible exact On.refl _ | apply On.alloc | refine On.setCell ?_ (by (try simp) <;> omega) _)
set_option maxHeartbeats 1000000 in
theorem impl_floor (x2 x3 x4 : Int) (a5 : Option Addr) (n5 cap5 : Nat) (w : World) (a0 : 0 ≤ x3) (a1 : x3 ≤ 30000) (b1 : x4 ≤ 100000) :
    Calls Tryd.prog 50 #[.agg #[.int .i64 x2, .int .i64 x3, .int .i64 x4, .slice a5 n5 cap5]] w fun e w' => e = .returned (.int .i64 (floorV x3 x4)) ∧ On w w' := by
  obtain ⟨l0, l1⟩ := logDb_bd (n := x4) (by omega)
  have HL := Lib.hid (fun w => Log.impl_logDb x4 w (by omega))
  have en := Lib.hid (show logDb x4 + -144000 + x3 = floorV x3 x4 by unfold floorV; omega)
  generalize logDb x4 = l at *
  have w1 : IntKind.i64.wrap (l + -144000) = l + -144000 := IntWalk.i64_in _ (by omega)
  have w2 : IntKind.i64.wrap (l + -144000 + x3) = l + -144000 + x3 := IntWalk.i64_in _ (by omega)
  go_enter Tryd.func50, Tryd.ntmps50
  go_wp2_with fail
  refine wp_region_onh (by kernel_rfl) (by kernel_rfl) ?_
  repeat (refine rest_step (fun K hK => ?_); go_simp; first | (refine hK _ ?_; clear hK K) | (apply Exists.intro; refine ⟨fun v1 hv1 => ?_, hK _ ?_⟩; (first | with_reducible exact rfl | with_reducible exact ⟨rfl, rfl⟩ | with_reducible exact Calls.on hv1 (HL.out _) | (obtain ⟨hc, hf⟩ := bcell hv1; go_simp; first | with_reducible exact rfl | with_reducible exact ⟨rfl, rfl⟩ | exact rfl | exact ⟨rfl, rfl⟩)); clear hK K))
  refine rest_nil ?_
  intro w5 h5
  go_wp2_with fail
  go_ret
  exact ⟨ret_int en.out, On.trans (by repeat (first | with_reducible exact On.refl _ | apply On.alloc)) h5⟩
set_option maxHeartbeats 1000000 in
theorem spec_floor (g : Nat) (x0 : ByteArray) (x1 x2 x3 x4 : Int) (v5 : Value) (w : World) (a0 : 0 ≤ x3) (a1 : x3 ≤ 30000) (b0 : 1 ≤ x4) (b1 : x4 ≤ 100000) (hp : In w g x0 x1 x2 x3 x4 v5) :
    Calls Tryd.prog 45 #[.pointer (some ⟨g, 0, none⟩)] w fun e w' => e = .returned (.int .i64 (floorV x3 x4)) ∧ On w w' := by
  obtain ⟨k0, k1, k2, k3, k4, k5⟩ := hp
  have hg : g < w.heap.size := World.block_lt_of_cell? w _ k0
  obtain ⟨l0, l1⟩ := logDb_bd (n := x4) (by omega)
  have HL := Lib.hid (fun w => show Calls Tryd.prog 81 #[.int .i64 x4] w fun e w' => e = .returned (.int .i64 (logDb x4)) ∧ On w w' from by
    obtain ⟨n, rfl⟩ := Int.eq_ofNat_of_zero_le (a := x4) (by omega)
    rw [logDb_yes (by omega)]
    exact (Log.spec_log n w (by omega) (by omega)).mono fun e w' ⟨he, hw⟩ => ⟨he, hw ▸ On.refl _⟩)
  have en := Lib.hid (show logDb x4 - 144000 + x3 = floorV x3 x4 from rfl)
  generalize logDb x4 = l at *
  have w1 : IntKind.i64.wrap (l - 144000) = l - 144000 := IntWalk.i64_in _ (by omega)
  have w2 : IntKind.i64.wrap (l - 144000 + x3) = l - 144000 + x3 := IntWalk.i64_in _ (by omega)
  go_enter Tryd.func45, Tryd.ntmps45
  go_wp2_with fail
  refine wp_region_onh (by kernel_rfl) (by kernel_rfl) ?_
  repeat (refine rest_step (fun K hK => ?_); go_simp; first | (refine hK _ ?_; clear hK K) | (apply Exists.intro; refine ⟨fun v1 hv1 => ?_, hK _ ?_⟩; (first | with_reducible exact rfl | with_reducible exact ⟨rfl, rfl⟩ | with_reducible exact Calls.on hv1 (HL.out _) | (obtain ⟨hc, hf⟩ := bcell hv1; go_simp; first | with_reducible exact rfl | with_reducible exact ⟨rfl, rfl⟩ | exact rfl | exact ⟨rfl, rfl⟩)); clear hK K))
  refine rest_nil ?_
  intro w5 h5
  go_wp2_with fail
  go_ret
  exact ⟨ret_int en.out, h5⟩
end Go.Proofs.YtknggnchldcghacDoor.Rad
