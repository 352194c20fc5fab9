
/-
  The functions of one radio, whole, in the model and in the program. Condition: at most 1048576 modes, and bytes in the name.
-/
import Derived.Test.YtknggnchldcghacDoorRadFun
namespace Go.Proofs.YtknggnchldcghacDoor.Rad
open Go.RowKit
open Plain
open Modes (Pairs)
open Err (errV own ErrVar)
open Chk (errIf gainS lossS levelS)
open Ints (Ints)

def c1 (ok : Bool) : Int := if ok = true then 0 else 1
def c2 (ok g : Bool) : Int := if ok = true then (if g = true then 0 else 2) else 1
def v1 (ok : Bool) (v : Int) : Int := if ok = true then v else 0
def v2 (ok g : Bool) (v : Int) : Int := if ok = true then (if g = true then v else 0) else 0
def gB (z : Int) : Bool := inB z (-60000) 60000
def lvB (z : Int) : Bool := inB z (-300000) 300000
def lsB (z : Int) : Bool := inB z 0 300000
theorem spec_gain (g : Int) (w : World) :
    Calls Tryd.prog 52 #[.int .i64 g] w fun e w' => e = .returned (.bool (gB g)) ∧ w = w' := by
  go_enter Tryd.func52, Tryd.ntmps52
  go_wp2_with (go_at_call 67; refine (Arith.l00In _ _ _ _).mono ?_; rintro e w' ⟨rfl, rfl⟩)
  go_ret
  exact ⟨rfl, rfl⟩
theorem spec_level (g : Int) (w : World) :
    Calls Tryd.prog 55 #[.int .i64 g] w fun e w' => e = .returned (.bool (lvB g)) ∧ w = w' := by
  go_enter Tryd.func55, Tryd.ntmps55
  go_wp2_with (go_at_call 67; refine (Arith.l00In _ _ _ _).mono ?_; rintro e w' ⟨rfl, rfl⟩)
  go_ret
  exact ⟨rfl, rfl⟩
theorem field63 (a b c d e : Value) (w : World) : (Instr.field 63 (.agg #[a, b, c, d, e]) 0).run Tryd.prog w = .ok (.agg #[a, b, c, d]) w := by kernel_rfl
theorem spec_ls (g : Int) (w : World) : Calls Tryd.prog 67 #[.int .i64 g, .int .i64 0, .int .i64 300000] w fun e w' => e = .returned (.bool (lsB g)) ∧ w = w' := Arith.l00In g 0 300000 w
theorem spec_mode (g : Nat) (x0 : ByteArray) (x1 x2 x3 x4 : Int) (a5 : Option Addr) (n cap5 : Nat) (mo : Int) (w : World) (hn : n ≤ 1048576) (hp : In w g x0 x1 x2 x3 x4 (.slice a5 n cap5)) :
    Calls Tryd.prog 63 #[.pointer (some ⟨g, 0, none⟩), .int .i64 mo] w fun e w' => e = .returned (.bool (inB mo 0 ((n : Int) - 1))) ∧ w = w' := by
  obtain ⟨k0, k1, k2, k3, k4, k5⟩ := hp
  have w1 : IntKind.i64.wrap ((n : Int) - 1) = (n : Int) - 1 := IntWalk.i64_in _ (by omega)
  go_enter Tryd.func63, Tryd.ntmps63
  go_wp2_with (go_at_call 67; refine (Arith.l00In _ _ _ _).mono ?_; rintro e w' ⟨rfl, rfl⟩)
  go_ret
  exact ⟨rfl, rfl⟩
theorem impl_eirp (x1 x2 x3 x4 : Int) (a5 : Option Addr) (n5 cap5 : Nat) (g : Int) (w : World) (b0 : -100000 ≤ x1) (b1 : x1 ≤ 100000) (d0 : 0 ≤ x2) (d1 : x2 ≤ 30000) (g0 : -60000 ≤ g) (g1 : g ≤ 60000) :
    Calls Tryd.prog 54 #[.agg #[.int .i64 x2, .int .i64 x3, .int .i64 x4, .slice a5 n5 cap5, .int .i64 x1], .int .i64 g] w fun e w' => e = .returned (.int .i64 (x1 - x2 + g)) ∧ On w w' := by
  have w1 : IntKind.i64.wrap (x1 - x2) = x1 - x2 := IntWalk.i64_in _ (by omega)
  have w2 : IntKind.i64.wrap (x1 - x2 + g) = x1 - x2 + g := IntWalk.i64_in _ (by omega)
  go_enter Tryd.func54, Tryd.ntmps54
  go_wp2_with fail
  go_ret
  exact ⟨rfl, (by repeat (first | with_reducible exact On.refl _ | apply On.alloc))⟩
set_option maxHeartbeats 1000000 in
theorem impl_snr (x2 x3 x4 : Int) (a5 : Option Addr) (n5 cap5 : Nat) (l : Int) (w : World) (d0 : 0 ≤ x2) (d1 : x2 ≤ 30000) (a0 : 0 ≤ x3) (a1 : x3 ≤ 30000) (b1 : x4 ≤ 100000) (l0 : -300000 ≤ l) (l1 : l ≤ 300000) :
    Calls Tryd.prog 56 #[.agg #[.int .i64 x2, .int .i64 x3, .int .i64 x4, .slice a5 n5 cap5], .int .i64 l] w fun e w' => e = .returned (.int .i64 (l - x2 - floorV x3 x4)) ∧ On w w' := by
  obtain ⟨f0, f1⟩ := floor_bd (x4 := x4) a0 a1 b1
  have HF := Lib.hid (fun w => impl_floor x2 x3 x4 a5 n5 cap5 w a0 a1 b1)
  generalize floorV x3 x4 = v at *
  have w1 : IntKind.i64.wrap (l - x2) = l - x2 := IntWalk.i64_in _ (by omega)
  have w2 : IntKind.i64.wrap (l - x2 - v) = l - x2 - v := IntWalk.i64_in _ (by omega)
  go_enter Tryd.func56, Tryd.ntmps56
  go_wp2_with fail
  refine wp_region_onh (by kernel_rfl) (by kernel_rfl) ?_
  repeat (refine rest_step (fun K hK => ?_); go_simp; first | (refine hK _ ?_; clear hK K) | (apply Exists.intro; refine ⟨fun v1 hv1 => ?_, hK _ ?_⟩; (first | with_reducible exact rfl | with_reducible exact ⟨rfl, rfl⟩ | with_reducible exact Calls.on hv1 (HF.out _) | (obtain ⟨hc, hf⟩ := bcell hv1; go_simp; first | with_reducible exact rfl | with_reducible exact ⟨rfl, rfl⟩ | exact rfl | exact ⟨rfl, rfl⟩)); clear hK K))
  refine rest_nil ?_
  intro w5 h5
  go_wp2_with fail
  go_ret
  exact ⟨rfl, On.trans (by repeat (first | with_reducible exact On.refl _ | apply On.alloc)) h5⟩
set_option maxHeartbeats 1000000 in
theorem impl_leastLevel (x2 x3 x4 : Int) (b off n cap5 k : Nat) (y : Int) (w : World) (hk : k < n) (_hn : n ≤ 8) (hb : b < w.heap.size) (hy : w.cell? ⟨b, off + k * 2, none⟩ = some (.int .i64 y)) (y0 : -50000 ≤ y) (y1 : y ≤ 100000) (d0 : 0 ≤ x2) (d1 : x2 ≤ 30000) (a0 : 0 ≤ x3) (a1 : x3 ≤ 30000) (b1 : x4 ≤ 100000) :
    Calls Tryd.prog 66 #[.agg #[.int .i64 x2, .int .i64 x3, .int .i64 x4, .slice (some ⟨b, off, none⟩) n cap5], .int .i64 k] w fun e w' => e = .returned (.int .i64 (y + floorV x3 x4 + x2)) ∧ On w w' := by
  obtain ⟨f0, f1⟩ := floor_bd (x4 := x4) a0 a1 b1
  have HF := Lib.hid (fun w => impl_floor x2 x3 x4 (some ⟨b, off, none⟩) n cap5 w a0 a1 b1)
  generalize floorV x3 x4 = v at *
  have w1 : IntKind.i64.wrap (y + v) = y + v := IntWalk.i64_in _ (by omega)
  have w2 : IntKind.i64.wrap (y + v + x2) = y + v + x2 := IntWalk.i64_in _ (by omega)
  have kn : (k : Int) < (n : Int) := by omega
  have hb1 : b < w.heap.size + 1 := by omega
  go_enter Tryd.func66, Tryd.ntmps66
  go_wp2_with fail
  refine wp_region_onh (by kernel_rfl) (by kernel_rfl) ?_
  repeat (refine rest_step (fun K hK => ?_); go_simp; first | (refine hK _ ?_; clear hK K) | (apply Exists.intro; refine ⟨fun v1 hv1 => ?_, hK _ ?_⟩; (first | with_reducible exact rfl | with_reducible exact ⟨rfl, rfl⟩ | with_reducible exact Calls.on hv1 (HF.out _) | (obtain ⟨hc, hf⟩ := bcell hv1; go_simp; first | with_reducible exact rfl | with_reducible exact ⟨rfl, rfl⟩ | exact rfl | exact ⟨rfl, rfl⟩)); clear hK K))
  refine rest_nil ?_
  intro w5 h5
  go_wp2_with fail
  go_ret
  exact ⟨rfl, On.trans (by repeat (first | with_reducible exact On.refl _ | apply On.alloc)) h5⟩
set_option maxHeartbeats 1000000 in
theorem spec_least (g : Nat) (x0 : ByteArray) (x1 x2 x3 x4 : Int) (b off n cap5 k : Nat) (y : Int) (w : World) (hk : k < n) (_hn : n ≤ 8) (hb : b < w.heap.size) (hy : w.cell? ⟨b, off + k * 2, none⟩ = some (.int .i64 y)) (y0 : -50000 ≤ y) (y1 : y ≤ 100000) (d0 : 0 ≤ x2) (d1 : x2 ≤ 30000) (a0 : 0 ≤ x3) (a1 : x3 ≤ 30000) (b0 : 1 ≤ x4) (b1 : x4 ≤ 100000) (hp : In w g x0 x1 x2 x3 x4 (.slice (some ⟨b, off, none⟩) n cap5)) :
    Calls Tryd.prog 64 #[.pointer (some ⟨g, 0, none⟩), .int .i64 k] w fun e w' => e = .returned (.int .i64 (y + floorV x3 x4 + x2)) ∧ On w w' := by
  obtain ⟨f0, f1⟩ := floor_bd (x4 := x4) a0 a1 b1
  have HF := Lib.hid (fun w' (hw : On w w') => spec_floor g x0 x1 x2 x3 x4 _ w' a0 a1 b0 b1 (hp.on hw))
  obtain ⟨k0, k1, k2, k3, k4, k5⟩ := hp
  have hg : g < w.heap.size := World.block_lt_of_cell? w _ k0
  generalize floorV x3 x4 = v at *
  have w1 : IntKind.i64.wrap (y + v) = y + v := IntWalk.i64_in _ (by omega)
  have w2 : IntKind.i64.wrap (y + v + x2) = y + v + x2 := IntWalk.i64_in _ (by omega)
  have kn : (k : Int) < (n : Int) := by omega
  go_enter Tryd.func64, Tryd.ntmps64
  go_wp2_with fail
  refine wp_region_onh (by kernel_rfl) (by kernel_rfl) ?_
  repeat (refine rest_step (fun K hK => ?_); go_simp; first | (refine hK _ ?_; clear hK K) | (apply Exists.intro; refine ⟨fun v1 hv1 => ?_, hK _ ?_⟩; (first | with_reducible exact rfl | with_reducible exact ⟨rfl, rfl⟩ | with_reducible exact Calls.on hv1 (HF.out _ hv1) | (obtain ⟨hc, hf⟩ := bcell hv1; go_simp; first | with_reducible exact rfl | with_reducible exact ⟨rfl, rfl⟩ | exact rfl | exact ⟨rfl, rfl⟩)); clear hK K))
  refine rest_nil ?_
  intro w5 h5
  go_wp2_with fail
  go_ret
  exact ⟨rfl, h5⟩
set_option maxRecDepth 100000 in
set_option maxHeartbeats 4000000 in
theorem spec_NoiseFloor (x0 : ByteArray) (x1 x2 x3 x4 : Int) (v5 : Value) (z5 : List (Int × Int)) (w : World) (q0 : x0.size ≤ 1048576) (q5 : z5.length ≤ 1048576) (h5 : Pairs w v5 z5) :
    Calls Tryd.prog 15 #[.agg #[.string x0, .int .i64 x1, .int .i64 x2, .int .i64 x3, .int .i64 x4, v5]] w fun e w' => e = .returned (.tuple #[.int .i64 (v1 (okR x0 x1 x2 x3 x4 z5) (floorV x3 x4)), .int .i64 (c1 (okR x0 x1 x2 x3 x4 z5))]) ∧ On w w' := by
  have HO := Lib.hid (fun w' (hb : On w w') hp => spec_ok w.heap.size x0 x1 x2 x3 x4 v5 z5 w' q0 q5 hp (h5.below hb))
  obtain ⟨a5, n5, cap5, rfl⟩ := anySlice h5
  cases hok : okR x0 x1 x2 x3 x4 z5 with
  | false =>
    rw [hok] at HO
    clear h5
    go_enter Tryd.func15, Tryd.ntmps15
    go_wp2_with fail
    refine (HO.out _ (by repeat (first | with_reducible exact On.refl _ | apply On.alloc)) ⟨by simp [go_sem], by simp [go_sem], by simp [go_sem], by simp [go_sem], by simp [go_sem], by simp [go_sem]⟩).mono ?_
    rintro e w1 ⟨rfl, h1⟩
    have P1 : In w1 w.heap.size x0 x1 x2 x3 x4 (.slice a5 n5 cap5) := In.on ⟨by simp [go_sem], by simp [go_sem], by simp [go_sem], by simp [go_sem], by simp [go_sem], by simp [go_sem]⟩ h1
    have HO1 := Lib.hid (On.trans (On.alloc (On.refl w) _) h1)
    have HP1 := Lib.hid P1
    obtain ⟨p0, p1, p2, p3, p4, p5⟩ := P1
    have z1 : w.heap.size < w1.heap.size := World.block_lt_of_cell? w1 _ p0
    clear h1
    go_wp2_with fail
    go_ret2
    exact ⟨rfl, HO1.out⟩
  | true =>
    rw [hok] at HO
    have BD := of_okR hok
    clear h5
    obtain ⟨-, ⟨b1, b2⟩, ⟨f1, f2⟩, ⟨r1, r2⟩, ⟨y1, y2⟩, -⟩ := BD
    obtain ⟨u1, u2⟩ := floor_bd (x4 := x4) r1 r2 y2
    have HF := Lib.hid (fun w' hp => spec_floor w.heap.size x0 x1 x2 x3 x4 (.slice a5 n5 cap5) w' r1 r2 y1 y2 hp)
    have en := Lib.hid (show v1 (true) (floorV x3 x4) = floorV x3 x4 ∧ c1 (true) = 0 from ⟨rfl, rfl⟩)
    generalize floorV x3 x4 = v at *
    go_enter Tryd.func15, Tryd.ntmps15
    go_wp2_with fail
    refine (HO.out _ (by repeat (first | with_reducible exact On.refl _ | apply On.alloc)) ⟨by simp [go_sem], by simp [go_sem], by simp [go_sem], by simp [go_sem], by simp [go_sem], by simp [go_sem]⟩).mono ?_
    rintro e w1 ⟨rfl, h1⟩
    have P1 : In w1 w.heap.size x0 x1 x2 x3 x4 (.slice a5 n5 cap5) := In.on ⟨by simp [go_sem], by simp [go_sem], by simp [go_sem], by simp [go_sem], by simp [go_sem], by simp [go_sem]⟩ h1
    have HO1 := Lib.hid (On.trans (On.alloc (On.refl w) _) h1)
    have HP1 := Lib.hid P1
    obtain ⟨p0, p1, p2, p3, p4, p5⟩ := P1
    have z1 : w.heap.size < w1.heap.size := World.block_lt_of_cell? w1 _ p0
    clear h1
    go_wp2_with fail
    refine (HF.out _ HP1.out).mono ?_
    rintro e w2 ⟨rfl, h2⟩
    go_wp2_with fail
    go_ret2
    exact ⟨ret_ii en.out.1.symm en.out.2.symm, HO1.out.trans h2⟩
set_option maxRecDepth 100000 in
set_option maxHeartbeats 4000000 in
theorem impl_NoiseFloor (x0 : ByteArray) (x1 x2 x3 x4 : Int) (v5 : Value) (z5 : List (Int × Int)) (w : World) (q0 : x0.size ≤ 1048576) (q5 : z5.length ≤ 1048576) (h5 : Pairs w v5 z5) (hg : ErrVar w) :
    Calls Tryd.prog 17 #[.agg #[.string x0, .int .i64 x1, .int .i64 x2, .int .i64 x3, .int .i64 x4, v5]] w fun e w' => e = .returned (.tuple #[.int .i64 (v1 (okR x0 x1 x2 x3 x4 z5) (floorV x3 x4)), .int .i64 (c1 (okR x0 x1 x2 x3 x4 z5))]) ∧ On w w' := by
  have CR := Lib.hid (fun b cap w' (hb : On w w') hp => check_radios b cap x0 x1 x2 x3 x4 v5 z5 w' q0 q5 (h5.below hb) hp)
  obtain ⟨a5, n5, cap5, rfl⟩ := anySlice h5
  clear q0 q5
  have f63 := field63
  cases hok : okR x0 x1 x2 x3 x4 z5 with
  | false =>
    rw [hok] at CR
    have CR1 := Lib.hid (fun b cap w' hb hp => show Calls Tryd.prog 48 #[.slice (some ⟨b, 0, none⟩) 1 cap] w' fun e w'' => e = .returned ((own radioS 1)) ∧ On w' w'' from CR.out b cap w' hb hp)
    have en := Lib.hid (show v1 (false) (floorV x3 x4) = 0 ∧ c1 (false) = 1 by exact ⟨rfl, rfl⟩)
    unfold own radioS  at *
    go_enter Tryd.func17, Tryd.ntmps17
    go_wp2_with fail
    refine (CR1.out _ _ _ (by repeat (first | with_reducible exact On.refl _ | apply On.alloc)) ⟨by simp [go_sem], by simp [go_sem], by simp [go_sem], by simp [go_sem], by simp [go_sem], by simp [go_sem]⟩).mono ?_
    rintro e w1 ⟨rfl, h1⟩
    have l1 : w.heap.size < w1.heap.size := by have := h1.size; simp at this; omega
    have P1 : In w1 w.heap.size x0 x1 x2 x3 x4 (.slice a5 n5 cap5) := In.on ⟨by simp [go_sem], by simp [go_sem], by simp [go_sem], by simp [go_sem], by simp [go_sem], by simp [go_sem]⟩ h1
    have HO1 := Lib.hid (On.trans (On.alloc (On.alloc (On.refl w) _) _) h1)
    have HP1 := Lib.hid P1
    clear P1 h1
    go_wp2_with fail
    refine (Err.first_E _ _ radioS 1 _ (hg.on (HO1.out.trans (by repeat (first | with_reducible exact On.refl _ | apply On.alloc)))) (by simp [go_sem, own, radioS])).mono ?_
    rintro e wc ⟨rfl, hc⟩
    have HOc := Lib.hid (HO1.out.trans (On.trans (by repeat (first | with_reducible exact On.refl _ | apply On.alloc)) hc))
    have Pc := HP1.out.on (On.trans (by repeat (first | with_reducible exact On.refl _ | apply On.alloc)) hc)
    have HPc := Lib.hid Pc
    obtain ⟨p0, p1, p2, p3, p4, p5⟩ := Pc
    clear hc
    go_wp2_with fail
    go_ret2
    exact ⟨ret_ii en.out.1.symm en.out.2.symm, HOc.out⟩
  | true =>
    rw [hok] at CR
    have CR1 := Lib.hid (fun b cap w' hb hp => show Calls Tryd.prog 48 #[.slice (some ⟨b, 0, none⟩) 1 cap] w' fun e w'' => e = .returned (.nilIface) ∧ On w' w'' from CR.out b cap w' hb hp)
    have en := Lib.hid (show v1 (true) (floorV x3 x4) = floorV x3 x4 ∧ c1 (true) = 0 by exact ⟨rfl, rfl⟩)
    obtain ⟨-, ⟨x11, x12⟩, ⟨f1, f2⟩, ⟨r1, r2⟩, ⟨y1, y2⟩, -⟩ := of_okR hok
    skip
    go_enter Tryd.func17, Tryd.ntmps17
    go_wp2_with fail
    refine (CR1.out _ _ _ (by repeat (first | with_reducible exact On.refl _ | apply On.alloc)) ⟨by simp [go_sem], by simp [go_sem], by simp [go_sem], by simp [go_sem], by simp [go_sem], by simp [go_sem]⟩).mono ?_
    rintro e w1 ⟨rfl, h1⟩
    have l1 : w.heap.size < w1.heap.size := by have := h1.size; simp at this; omega
    have P1 : In w1 w.heap.size x0 x1 x2 x3 x4 (.slice a5 n5 cap5) := In.on ⟨by simp [go_sem], by simp [go_sem], by simp [go_sem], by simp [go_sem], by simp [go_sem], by simp [go_sem]⟩ h1
    have HO1 := Lib.hid (On.trans (On.alloc (On.alloc (On.refl w) _) _) h1)
    have HP1 := Lib.hid P1
    clear P1 h1
    go_wp2_with fail
    refine (Err.first_N _ _  _ (by simp [go_sem])).mono ?_
    rintro e wc ⟨rfl, hc⟩
    have HOc := Lib.hid (HO1.out.trans (On.trans (by repeat (first | with_reducible exact On.refl _ | apply On.alloc)) hc))
    have Pc := HP1.out.on (On.trans (by repeat (first | with_reducible exact On.refl _ | apply On.alloc)) hc)
    have HPc := Lib.hid Pc
    obtain ⟨p0, p1, p2, p3, p4, p5⟩ := Pc
    clear hc
    go_wp2_with fail
    refine (parts _ _ _ _ _ _ _ _ _).mono ?_
    rintro e wd ⟨rfl, hd⟩
    go_wp2_with fail
    refine (impl_floor _ _ _ _ _ _ _ r1 r2 y2).mono ?_
    rintro e we ⟨rfl, he⟩
    go_wp2_with fail
    go_ret2
    exact ⟨ret_ii en.out.1.symm en.out.2.symm, HOc.out.trans (hd.trans he)⟩
set_option maxRecDepth 100000 in
set_option maxHeartbeats 4000000 in
theorem spec_EirpOf (x0 : ByteArray) (x1 x2 x3 x4 : Int) (v5 : Value) (z5 : List (Int × Int)) (g : Int) (w : World) (q0 : x0.size ≤ 1048576) (q5 : z5.length ≤ 1048576) (h5 : Pairs w v5 z5) :
    Calls Tryd.prog 19 #[.agg #[.string x0, .int .i64 x1, .int .i64 x2, .int .i64 x3, .int .i64 x4, v5], .int .i64 g] w fun e w' => e = .returned (.tuple #[.int .i64 (v2 (okR x0 x1 x2 x3 x4 z5) (gB g) (x1 - x2 + g)), .int .i64 (c2 (okR x0 x1 x2 x3 x4 z5) (gB g))]) ∧ On w w' := by
  have HO := Lib.hid (fun w' (hb : On w w') hp => spec_ok w.heap.size x0 x1 x2 x3 x4 v5 z5 w' q0 q5 hp (h5.below hb))
  obtain ⟨a5, n5, cap5, rfl⟩ := anySlice h5
  cases hok : okR x0 x1 x2 x3 x4 z5 with
  | false =>
    rw [hok] at HO
    clear h5
    go_enter Tryd.func19, Tryd.ntmps19
    go_wp2_with fail
    refine (HO.out _ (by repeat (first | with_reducible exact On.refl _ | apply On.alloc)) ⟨by simp [go_sem], by simp [go_sem], by simp [go_sem], by simp [go_sem], by simp [go_sem], by simp [go_sem]⟩).mono ?_
    rintro e w1 ⟨rfl, h1⟩
    have P1 : In w1 w.heap.size x0 x1 x2 x3 x4 (.slice a5 n5 cap5) := In.on ⟨by simp [go_sem], by simp [go_sem], by simp [go_sem], by simp [go_sem], by simp [go_sem], by simp [go_sem]⟩ h1
    have HO1 := Lib.hid (On.trans (On.alloc (On.refl w) _) h1)
    have HP1 := Lib.hid P1
    obtain ⟨p0, p1, p2, p3, p4, p5⟩ := P1
    have z1 : w.heap.size < w1.heap.size := World.block_lt_of_cell? w1 _ p0
    clear h1
    go_wp2_with fail
    go_ret2
    exact ⟨rfl, HO1.out⟩
  | true =>
    rw [hok] at HO
    have BD := of_okR hok
    clear h5
    cases d0 : gB g with
    | false =>
      have en := Lib.hid (show v2 (true) (false) (x1 - x2 + g) = 0 ∧ c2 (true) (false) = 2 from ⟨rfl, rfl⟩)
      go_enter Tryd.func19, Tryd.ntmps19
      go_wp2_with fail
      refine (HO.out _ (by repeat (first | with_reducible exact On.refl _ | apply On.alloc)) ⟨by simp [go_sem], by simp [go_sem], by simp [go_sem], by simp [go_sem], by simp [go_sem], by simp [go_sem]⟩).mono ?_
      rintro e w1 ⟨rfl, h1⟩
      have P1 : In w1 w.heap.size x0 x1 x2 x3 x4 (.slice a5 n5 cap5) := In.on ⟨by simp [go_sem], by simp [go_sem], by simp [go_sem], by simp [go_sem], by simp [go_sem], by simp [go_sem]⟩ h1
      have HO1 := Lib.hid (On.trans (On.alloc (On.refl w) _) h1)
      have HP1 := Lib.hid P1
      obtain ⟨p0, p1, p2, p3, p4, p5⟩ := P1
      have z1 : w.heap.size < w1.heap.size := World.block_lt_of_cell? w1 _ p0
      clear h1
      go_wp2_with (first | (go_at_call 52; with_reducible refine (spec_gain g _).mono ?_; rintro e w' ⟨rfl, rfl⟩))
      go_ret2
      exact ⟨ret_ii en.out.1.symm en.out.2.symm, HO1.out⟩
    | true =>
      obtain ⟨-, ⟨b1, b2⟩, ⟨f1, f2⟩, ⟨r1, r2⟩, ⟨y1, y2⟩, -⟩ := BD
      obtain ⟨e0, g0⟩ := of_inB d0
      have en := Lib.hid (show v2 (true) (true) (x1 - x2 + g) = x1 - x2 + g ∧ c2 (true) (true) = 0 from ⟨rfl, rfl⟩)
      have wr0 : IntKind.i64.wrap (x1 - x2) = x1 - x2 := IntWalk.i64_in _ (by omega)
      have wr1 : IntKind.i64.wrap (x1 - x2 + g) = x1 - x2 + g := IntWalk.i64_in _ (by omega)
      go_enter Tryd.func19, Tryd.ntmps19
      go_wp2_with fail
      refine (HO.out _ (by repeat (first | with_reducible exact On.refl _ | apply On.alloc)) ⟨by simp [go_sem], by simp [go_sem], by simp [go_sem], by simp [go_sem], by simp [go_sem], by simp [go_sem]⟩).mono ?_
      rintro e w1 ⟨rfl, h1⟩
      have P1 : In w1 w.heap.size x0 x1 x2 x3 x4 (.slice a5 n5 cap5) := In.on ⟨by simp [go_sem], by simp [go_sem], by simp [go_sem], by simp [go_sem], by simp [go_sem], by simp [go_sem]⟩ h1
      have HO1 := Lib.hid (On.trans (On.alloc (On.refl w) _) h1)
      have HP1 := Lib.hid P1
      obtain ⟨p0, p1, p2, p3, p4, p5⟩ := P1
      have z1 : w.heap.size < w1.heap.size := World.block_lt_of_cell? w1 _ p0
      clear h1
      go_wp2_with (first | (go_at_call 52; with_reducible refine (spec_gain g _).mono ?_; rintro e w' ⟨rfl, rfl⟩))
      go_ret2
      exact ⟨ret_ii en.out.1.symm en.out.2.symm, HO1.out⟩
set_option maxRecDepth 100000 in
set_option maxHeartbeats 4000000 in
theorem impl_EirpOf (x0 : ByteArray) (x1 x2 x3 x4 : Int) (v5 : Value) (z5 : List (Int × Int)) (g : Int) (w : World) (q0 : x0.size ≤ 1048576) (q5 : z5.length ≤ 1048576) (h5 : Pairs w v5 z5) (hg : ErrVar w) :
    Calls Tryd.prog 20 #[.agg #[.string x0, .int .i64 x1, .int .i64 x2, .int .i64 x3, .int .i64 x4, v5], .int .i64 g] w fun e w' => e = .returned (.tuple #[.int .i64 (v2 (okR x0 x1 x2 x3 x4 z5) (gB g) (x1 - x2 + g)), .int .i64 (c2 (okR x0 x1 x2 x3 x4 z5) (gB g))]) ∧ On w w' := by
  have CR := Lib.hid (fun b cap w' (hb : On w w') hp => check_radios b cap x0 x1 x2 x3 x4 v5 z5 w' q0 q5 (h5.below hb) hp)
  obtain ⟨a5, n5, cap5, rfl⟩ := anySlice h5
  clear q0 q5
  have K1 := Lib.hid (fun v w h => Chk.check_gain v [g] w (by simp) h)
  have B1 := Lib.hid (show ([g] : List Int).all Chk.gainB = (gB g) by simp [List.all_cons, List.all_nil, Bool.and_true]; rfl)
  cases hok : okR x0 x1 x2 x3 x4 z5 with
  | false =>
    cases d1 : ([g] : List Int).all Chk.gainB with
    | false =>
      rw [hok] at CR
      have CR1 := Lib.hid (fun b cap w' hb hp => show Calls Tryd.prog 48 #[.slice (some ⟨b, 0, none⟩) 1 cap] w' fun e w'' => e = .returned ((own radioS 1)) ∧ On w' w'' from CR.out b cap w' hb hp)
      rw [d1] at K1
      have KK1 := Lib.hid (fun v w h => show Calls Tryd.prog 53 #[.string Chk.gainS, v] w fun e w' => e = .returned ((own Chk.gainS 2)) ∧ On w w' from K1.out v w h)
      have b1 := B1.out.symm.trans d1
      have en := Lib.hid (show v2 (false) (gB g) (x1 - x2 + g) = 0 ∧ c2 (false) (gB g) = 1 by rw [b1]; exact ⟨rfl, rfl⟩)
      unfold own radioS Chk.gainS at *
      go_enter Tryd.func20, Tryd.ntmps20
      go_wp2_with fail
      refine (CR1.out _ _ _ (by repeat (first | with_reducible exact On.refl _ | apply On.alloc)) ⟨by simp [go_sem], by simp [go_sem], by simp [go_sem], by simp [go_sem], by simp [go_sem], by simp [go_sem]⟩).mono ?_
      rintro e w1 ⟨rfl, h1⟩
      have l1 : w.heap.size < w1.heap.size := by have := h1.size; simp at this; omega
      have P1 : In w1 w.heap.size x0 x1 x2 x3 x4 (.slice a5 n5 cap5) := In.on ⟨by simp [go_sem], by simp [go_sem], by simp [go_sem], by simp [go_sem], by simp [go_sem], by simp [go_sem]⟩ h1
      have HO1 := Lib.hid (On.trans (On.alloc (On.alloc (On.refl w) _) _) h1)
      have HP1 := Lib.hid P1
      clear P1 h1
      go_wp2_with fail
      refine (KK1.out _ _ (ints1 (by simp [go_sem]))).mono ?_
      rintro e w2 ⟨rfl, h2⟩
      have HO2 := Lib.hid (HO1.out.trans (On.trans (by repeat (first | with_reducible exact On.refl _ | apply On.alloc)) h2))
      have HP2 := Lib.hid (HP1.out.on (On.trans (by repeat (first | with_reducible exact On.refl _ | apply On.alloc)) h2))
      clear h2
      go_wp2_with fail
      refine (Err.first_EE _ _ radioS 1 Chk.gainS 2 _ (hg.on (HO2.out.trans (by repeat (first | with_reducible exact On.refl _ | apply On.alloc)))) (by simp [go_sem, own, radioS]) (by simp [go_sem, own, Chk.gainS])).mono ?_
      rintro e wc ⟨rfl, hc⟩
      have HOc := Lib.hid (HO2.out.trans (On.trans (by repeat (first | with_reducible exact On.refl _ | apply On.alloc)) hc))
      have Pc := HP2.out.on (On.trans (by repeat (first | with_reducible exact On.refl _ | apply On.alloc)) hc)
      have HPc := Lib.hid Pc
      obtain ⟨p0, p1, p2, p3, p4, p5⟩ := Pc
      clear hc
      go_wp2_with fail
      go_ret2
      exact ⟨ret_ii en.out.1.symm en.out.2.symm, HOc.out⟩
    | true =>
      rw [hok] at CR
      have CR1 := Lib.hid (fun b cap w' hb hp => show Calls Tryd.prog 48 #[.slice (some ⟨b, 0, none⟩) 1 cap] w' fun e w'' => e = .returned ((own radioS 1)) ∧ On w' w'' from CR.out b cap w' hb hp)
      rw [d1] at K1
      have KK1 := Lib.hid (fun v w h => show Calls Tryd.prog 53 #[.string Chk.gainS, v] w fun e w' => e = .returned (.nilIface) ∧ On w w' from K1.out v w h)
      have b1 := B1.out.symm.trans d1
      have en := Lib.hid (show v2 (false) (gB g) (x1 - x2 + g) = 0 ∧ c2 (false) (gB g) = 1 by rw [b1]; exact ⟨rfl, rfl⟩)
      unfold own radioS Chk.gainS at *
      go_enter Tryd.func20, Tryd.ntmps20
      go_wp2_with fail
      refine (CR1.out _ _ _ (by repeat (first | with_reducible exact On.refl _ | apply On.alloc)) ⟨by simp [go_sem], by simp [go_sem], by simp [go_sem], by simp [go_sem], by simp [go_sem], by simp [go_sem]⟩).mono ?_
      rintro e w1 ⟨rfl, h1⟩
      have l1 : w.heap.size < w1.heap.size := by have := h1.size; simp at this; omega
      have P1 : In w1 w.heap.size x0 x1 x2 x3 x4 (.slice a5 n5 cap5) := In.on ⟨by simp [go_sem], by simp [go_sem], by simp [go_sem], by simp [go_sem], by simp [go_sem], by simp [go_sem]⟩ h1
      have HO1 := Lib.hid (On.trans (On.alloc (On.alloc (On.refl w) _) _) h1)
      have HP1 := Lib.hid P1
      clear P1 h1
      go_wp2_with fail
      refine (KK1.out _ _ (ints1 (by simp [go_sem]))).mono ?_
      rintro e w2 ⟨rfl, h2⟩
      have HO2 := Lib.hid (HO1.out.trans (On.trans (by repeat (first | with_reducible exact On.refl _ | apply On.alloc)) h2))
      have HP2 := Lib.hid (HP1.out.on (On.trans (by repeat (first | with_reducible exact On.refl _ | apply On.alloc)) h2))
      clear h2
      go_wp2_with fail
      refine (Err.first_EN _ _ radioS 1 _ (hg.on (HO2.out.trans (by repeat (first | with_reducible exact On.refl _ | apply On.alloc)))) (by simp [go_sem, own, radioS]) (by simp [go_sem])).mono ?_
      rintro e wc ⟨rfl, hc⟩
      have HOc := Lib.hid (HO2.out.trans (On.trans (by repeat (first | with_reducible exact On.refl _ | apply On.alloc)) hc))
      have Pc := HP2.out.on (On.trans (by repeat (first | with_reducible exact On.refl _ | apply On.alloc)) hc)
      have HPc := Lib.hid Pc
      obtain ⟨p0, p1, p2, p3, p4, p5⟩ := Pc
      clear hc
      go_wp2_with fail
      go_ret2
      exact ⟨ret_ii en.out.1.symm en.out.2.symm, HOc.out⟩
  | true =>
    cases d1 : ([g] : List Int).all Chk.gainB with
    | false =>
      rw [hok] at CR
      have CR1 := Lib.hid (fun b cap w' hb hp => show Calls Tryd.prog 48 #[.slice (some ⟨b, 0, none⟩) 1 cap] w' fun e w'' => e = .returned (.nilIface) ∧ On w' w'' from CR.out b cap w' hb hp)
      rw [d1] at K1
      have KK1 := Lib.hid (fun v w h => show Calls Tryd.prog 53 #[.string Chk.gainS, v] w fun e w' => e = .returned ((own Chk.gainS 2)) ∧ On w w' from K1.out v w h)
      have b1 := B1.out.symm.trans d1
      have en := Lib.hid (show v2 (true) (gB g) (x1 - x2 + g) = 0 ∧ c2 (true) (gB g) = 2 by rw [b1]; exact ⟨rfl, rfl⟩)
      unfold own radioS Chk.gainS at *
      go_enter Tryd.func20, Tryd.ntmps20
      go_wp2_with fail
      refine (CR1.out _ _ _ (by repeat (first | with_reducible exact On.refl _ | apply On.alloc)) ⟨by simp [go_sem], by simp [go_sem], by simp [go_sem], by simp [go_sem], by simp [go_sem], by simp [go_sem]⟩).mono ?_
      rintro e w1 ⟨rfl, h1⟩
      have l1 : w.heap.size < w1.heap.size := by have := h1.size; simp at this; omega
      have P1 : In w1 w.heap.size x0 x1 x2 x3 x4 (.slice a5 n5 cap5) := In.on ⟨by simp [go_sem], by simp [go_sem], by simp [go_sem], by simp [go_sem], by simp [go_sem], by simp [go_sem]⟩ h1
      have HO1 := Lib.hid (On.trans (On.alloc (On.alloc (On.refl w) _) _) h1)
      have HP1 := Lib.hid P1
      clear P1 h1
      go_wp2_with fail
      refine (KK1.out _ _ (ints1 (by simp [go_sem]))).mono ?_
      rintro e w2 ⟨rfl, h2⟩
      have HO2 := Lib.hid (HO1.out.trans (On.trans (by repeat (first | with_reducible exact On.refl _ | apply On.alloc)) h2))
      have HP2 := Lib.hid (HP1.out.on (On.trans (by repeat (first | with_reducible exact On.refl _ | apply On.alloc)) h2))
      clear h2
      go_wp2_with fail
      refine (Err.first_NE _ _ Chk.gainS 2 _ (hg.on (HO2.out.trans (by repeat (first | with_reducible exact On.refl _ | apply On.alloc)))) (by simp [go_sem]) (by simp [go_sem, own, Chk.gainS])).mono ?_
      rintro e wc ⟨rfl, hc⟩
      have HOc := Lib.hid (HO2.out.trans (On.trans (by repeat (first | with_reducible exact On.refl _ | apply On.alloc)) hc))
      have Pc := HP2.out.on (On.trans (by repeat (first | with_reducible exact On.refl _ | apply On.alloc)) hc)
      have HPc := Lib.hid Pc
      obtain ⟨p0, p1, p2, p3, p4, p5⟩ := Pc
      clear hc
      go_wp2_with fail
      go_ret2
      exact ⟨ret_ii en.out.1.symm en.out.2.symm, HOc.out⟩
    | true =>
      rw [hok] at CR
      have CR1 := Lib.hid (fun b cap w' hb hp => show Calls Tryd.prog 48 #[.slice (some ⟨b, 0, none⟩) 1 cap] w' fun e w'' => e = .returned (.nilIface) ∧ On w' w'' from CR.out b cap w' hb hp)
      rw [d1] at K1
      have KK1 := Lib.hid (fun v w h => show Calls Tryd.prog 53 #[.string Chk.gainS, v] w fun e w' => e = .returned (.nilIface) ∧ On w w' from K1.out v w h)
      have b1 := B1.out.symm.trans d1
      have en := Lib.hid (show v2 (true) (gB g) (x1 - x2 + g) = x1 - x2 + g ∧ c2 (true) (gB g) = 0 by rw [b1]; exact ⟨rfl, rfl⟩)
      obtain ⟨-, ⟨x11, x12⟩, ⟨f1, f2⟩, ⟨r1, r2⟩, ⟨y1, y2⟩, -⟩ := of_okR hok
      obtain ⟨e0, g0⟩ := of_inB b1
      unfold Chk.gainS at *
      go_enter Tryd.func20, Tryd.ntmps20
      go_wp2_with fail
      refine (CR1.out _ _ _ (by repeat (first | with_reducible exact On.refl _ | apply On.alloc)) ⟨by simp [go_sem], by simp [go_sem], by simp [go_sem], by simp [go_sem], by simp [go_sem], by simp [go_sem]⟩).mono ?_
      rintro e w1 ⟨rfl, h1⟩
      have l1 : w.heap.size < w1.heap.size := by have := h1.size; simp at this; omega
      have P1 : In w1 w.heap.size x0 x1 x2 x3 x4 (.slice a5 n5 cap5) := In.on ⟨by simp [go_sem], by simp [go_sem], by simp [go_sem], by simp [go_sem], by simp [go_sem], by simp [go_sem]⟩ h1
      have HO1 := Lib.hid (On.trans (On.alloc (On.alloc (On.refl w) _) _) h1)
      have HP1 := Lib.hid P1
      clear P1 h1
      go_wp2_with fail
      refine (KK1.out _ _ (ints1 (by simp [go_sem]))).mono ?_
      rintro e w2 ⟨rfl, h2⟩
      have HO2 := Lib.hid (HO1.out.trans (On.trans (by repeat (first | with_reducible exact On.refl _ | apply On.alloc)) h2))
      have HP2 := Lib.hid (HP1.out.on (On.trans (by repeat (first | with_reducible exact On.refl _ | apply On.alloc)) h2))
      clear h2
      go_wp2_with fail
      refine (Err.first_NN _ _  _ (by simp [go_sem]) (by simp [go_sem])).mono ?_
      rintro e wc ⟨rfl, hc⟩
      have HOc := Lib.hid (HO2.out.trans (On.trans (by repeat (first | with_reducible exact On.refl _ | apply On.alloc)) hc))
      have Pc := HP2.out.on (On.trans (by repeat (first | with_reducible exact On.refl _ | apply On.alloc)) hc)
      have HPc := Lib.hid Pc
      obtain ⟨p0, p1, p2, p3, p4, p5⟩ := Pc
      clear hc
      go_wp2_with fail
      refine (parts _ _ _ _ _ _ _ _ _).mono ?_
      rintro e wd ⟨rfl, hd⟩
      go_wp2_with fail
      refine (impl_eirp _ _ _ _ _ _ _ _ _ x11 x12 f1 f2 e0 g0).mono ?_
      rintro e we ⟨rfl, he⟩
      go_wp2_with fail
      go_ret2
      exact ⟨ret_ii en.out.1.symm en.out.2.symm, HOc.out.trans (hd.trans he)⟩
set_option maxRecDepth 100000 in
set_option maxHeartbeats 4000000 in
theorem spec_SnrOf (x0 : ByteArray) (x1 x2 x3 x4 : Int) (v5 : Value) (z5 : List (Int × Int)) (l : Int) (w : World) (q0 : x0.size ≤ 1048576) (q5 : z5.length ≤ 1048576) (h5 : Pairs w v5 z5) :
    Calls Tryd.prog 21 #[.agg #[.string x0, .int .i64 x1, .int .i64 x2, .int .i64 x3, .int .i64 x4, v5], .int .i64 l] w fun e w' => e = .returned (.tuple #[.int .i64 (v2 (okR x0 x1 x2 x3 x4 z5) (lvB l) (l - x2 - floorV x3 x4)), .int .i64 (c2 (okR x0 x1 x2 x3 x4 z5) (lvB l))]) ∧ On w w' := by
  have HO := Lib.hid (fun w' (hb : On w w') hp => spec_ok w.heap.size x0 x1 x2 x3 x4 v5 z5 w' q0 q5 hp (h5.below hb))
  obtain ⟨a5, n5, cap5, rfl⟩ := anySlice h5
  cases hok : okR x0 x1 x2 x3 x4 z5 with
  | false =>
    rw [hok] at HO
    clear h5
    go_enter Tryd.func21, Tryd.ntmps21
    go_wp2_with fail
    refine (HO.out _ (by repeat (first | with_reducible exact On.refl _ | apply On.alloc)) ⟨by simp [go_sem], by simp [go_sem], by simp [go_sem], by simp [go_sem], by simp [go_sem], by simp [go_sem]⟩).mono ?_
    rintro e w1 ⟨rfl, h1⟩
    have P1 : In w1 w.heap.size x0 x1 x2 x3 x4 (.slice a5 n5 cap5) := In.on ⟨by simp [go_sem], by simp [go_sem], by simp [go_sem], by simp [go_sem], by simp [go_sem], by simp [go_sem]⟩ h1
    have HO1 := Lib.hid (On.trans (On.alloc (On.refl w) _) h1)
    have HP1 := Lib.hid P1
    obtain ⟨p0, p1, p2, p3, p4, p5⟩ := P1
    have z1 : w.heap.size < w1.heap.size := World.block_lt_of_cell? w1 _ p0
    clear h1
    go_wp2_with fail
    go_ret2
    exact ⟨rfl, HO1.out⟩
  | true =>
    rw [hok] at HO
    have BD := of_okR hok
    clear h5
    cases d0 : lvB l with
    | false =>
      have en := Lib.hid (show v2 (true) (false) (l - x2 - floorV x3 x4) = 0 ∧ c2 (true) (false) = 2 from ⟨rfl, rfl⟩)
      go_enter Tryd.func21, Tryd.ntmps21
      go_wp2_with fail
      refine (HO.out _ (by repeat (first | with_reducible exact On.refl _ | apply On.alloc)) ⟨by simp [go_sem], by simp [go_sem], by simp [go_sem], by simp [go_sem], by simp [go_sem], by simp [go_sem]⟩).mono ?_
      rintro e w1 ⟨rfl, h1⟩
      have P1 : In w1 w.heap.size x0 x1 x2 x3 x4 (.slice a5 n5 cap5) := In.on ⟨by simp [go_sem], by simp [go_sem], by simp [go_sem], by simp [go_sem], by simp [go_sem], by simp [go_sem]⟩ h1
      have HO1 := Lib.hid (On.trans (On.alloc (On.refl w) _) h1)
      have HP1 := Lib.hid P1
      obtain ⟨p0, p1, p2, p3, p4, p5⟩ := P1
      have z1 : w.heap.size < w1.heap.size := World.block_lt_of_cell? w1 _ p0
      clear h1
      go_wp2_with (first | (go_at_call 55; with_reducible refine (spec_level l _).mono ?_; rintro e w' ⟨rfl, rfl⟩))
      go_ret2
      exact ⟨ret_ii en.out.1.symm en.out.2.symm, HO1.out⟩
    | true =>
      obtain ⟨-, ⟨b1, b2⟩, ⟨f1, f2⟩, ⟨r1, r2⟩, ⟨y1, y2⟩, -⟩ := BD
      obtain ⟨e0, g0⟩ := of_inB d0
      obtain ⟨u1, u2⟩ := floor_bd (x4 := x4) r1 r2 y2
      have HF := Lib.hid (fun w' hp => spec_floor w.heap.size x0 x1 x2 x3 x4 (.slice a5 n5 cap5) w' r1 r2 y1 y2 hp)
      have en := Lib.hid (show v2 (true) (true) (l - x2 - floorV x3 x4) = l - x2 - floorV x3 x4 ∧ c2 (true) (true) = 0 from ⟨rfl, rfl⟩)
      generalize floorV x3 x4 = v at *
      have wr0 : IntKind.i64.wrap (l - x2) = l - x2 := IntWalk.i64_in _ (by omega)
      have wr1 : IntKind.i64.wrap (l - x2 - v) = l - x2 - v := IntWalk.i64_in _ (by omega)
      go_enter Tryd.func21, Tryd.ntmps21
      go_wp2_with fail
      refine (HO.out _ (by repeat (first | with_reducible exact On.refl _ | apply On.alloc)) ⟨by simp [go_sem], by simp [go_sem], by simp [go_sem], by simp [go_sem], by simp [go_sem], by simp [go_sem]⟩).mono ?_
      rintro e w1 ⟨rfl, h1⟩
      have P1 : In w1 w.heap.size x0 x1 x2 x3 x4 (.slice a5 n5 cap5) := In.on ⟨by simp [go_sem], by simp [go_sem], by simp [go_sem], by simp [go_sem], by simp [go_sem], by simp [go_sem]⟩ h1
      have HO1 := Lib.hid (On.trans (On.alloc (On.refl w) _) h1)
      have HP1 := Lib.hid P1
      obtain ⟨p0, p1, p2, p3, p4, p5⟩ := P1
      have z1 : w.heap.size < w1.heap.size := World.block_lt_of_cell? w1 _ p0
      clear h1
      go_wp2_with (first | (go_at_call 55; with_reducible refine (spec_level l _).mono ?_; rintro e w' ⟨rfl, rfl⟩))
      refine wp_region_onh (by kernel_rfl) (by kernel_rfl) ?_
      repeat (refine rest_step (fun K hK => ?_); go_simp; first | (refine hK _ ?_; clear hK K) | (apply Exists.intro; refine ⟨fun v1 hv1 => ?_, hK _ ?_⟩; (first | with_reducible exact rfl | with_reducible exact ⟨rfl, rfl⟩ | with_reducible exact Calls.on hv1 (HF.out _ (HP1.out.on hv1)) | (obtain ⟨hc, hf⟩ := bcell hv1; go_simp; first | with_reducible exact rfl | with_reducible exact ⟨rfl, rfl⟩ | exact rfl | exact ⟨rfl, rfl⟩)); clear hK K))
      refine rest_nil ?_
      intro w2 h2
      go_wp2_with fail
      go_ret2
      exact ⟨ret_ii en.out.1.symm en.out.2.symm, HO1.out.trans h2⟩
set_option maxRecDepth 100000 in
set_option maxHeartbeats 4000000 in
theorem impl_SnrOf (x0 : ByteArray) (x1 x2 x3 x4 : Int) (v5 : Value) (z5 : List (Int × Int)) (l : Int) (w : World) (q0 : x0.size ≤ 1048576) (q5 : z5.length ≤ 1048576) (h5 : Pairs w v5 z5) (hg : ErrVar w) :
    Calls Tryd.prog 22 #[.agg #[.string x0, .int .i64 x1, .int .i64 x2, .int .i64 x3, .int .i64 x4, v5], .int .i64 l] w fun e w' => e = .returned (.tuple #[.int .i64 (v2 (okR x0 x1 x2 x3 x4 z5) (lvB l) (l - x2 - floorV x3 x4)), .int .i64 (c2 (okR x0 x1 x2 x3 x4 z5) (lvB l))]) ∧ On w w' := by
  have CR := Lib.hid (fun b cap w' (hb : On w w') hp => check_radios b cap x0 x1 x2 x3 x4 v5 z5 w' q0 q5 (h5.below hb) hp)
  obtain ⟨a5, n5, cap5, rfl⟩ := anySlice h5
  clear q0 q5
  have K1 := Lib.hid (fun v w h => Chk.check_level v [l] w (by simp) h)
  have B1 := Lib.hid (show ([l] : List Int).all Chk.levelB = (lvB l) by simp [List.all_cons, List.all_nil, Bool.and_true]; rfl)
  have f63 := field63
  cases hok : okR x0 x1 x2 x3 x4 z5 with
  | false =>
    cases d1 : ([l] : List Int).all Chk.levelB with
    | false =>
      rw [hok] at CR
      have CR1 := Lib.hid (fun b cap w' hb hp => show Calls Tryd.prog 48 #[.slice (some ⟨b, 0, none⟩) 1 cap] w' fun e w'' => e = .returned ((own radioS 1)) ∧ On w' w'' from CR.out b cap w' hb hp)
      rw [d1] at K1
      have KK1 := Lib.hid (fun v w h => show Calls Tryd.prog 53 #[.string Chk.levelS, v] w fun e w' => e = .returned ((own Chk.levelS 2)) ∧ On w w' from K1.out v w h)
      have b1 := B1.out.symm.trans d1
      have en := Lib.hid (show v2 (false) (lvB l) (l - x2 - floorV x3 x4) = 0 ∧ c2 (false) (lvB l) = 1 by rw [b1]; exact ⟨rfl, rfl⟩)
      unfold own radioS Chk.levelS at *
      go_enter Tryd.func22, Tryd.ntmps22
      go_wp2_with fail
      refine (CR1.out _ _ _ (by repeat (first | with_reducible exact On.refl _ | apply On.alloc)) ⟨by simp [go_sem], by simp [go_sem], by simp [go_sem], by simp [go_sem], by simp [go_sem], by simp [go_sem]⟩).mono ?_
      rintro e w1 ⟨rfl, h1⟩
      have l1 : w.heap.size < w1.heap.size := by have := h1.size; simp at this; omega
      have P1 : In w1 w.heap.size x0 x1 x2 x3 x4 (.slice a5 n5 cap5) := In.on ⟨by simp [go_sem], by simp [go_sem], by simp [go_sem], by simp [go_sem], by simp [go_sem], by simp [go_sem]⟩ h1
      have HO1 := Lib.hid (On.trans (On.alloc (On.alloc (On.refl w) _) _) h1)
      have HP1 := Lib.hid P1
      clear P1 h1
      go_wp2_with fail
      refine (KK1.out _ _ (ints1 (by simp [go_sem]))).mono ?_
      rintro e w2 ⟨rfl, h2⟩
      have HO2 := Lib.hid (HO1.out.trans (On.trans (by repeat (first | with_reducible exact On.refl _ | apply On.alloc)) h2))
      have HP2 := Lib.hid (HP1.out.on (On.trans (by repeat (first | with_reducible exact On.refl _ | apply On.alloc)) h2))
      clear h2
      go_wp2_with fail
      refine (Err.first_EE _ _ radioS 1 Chk.levelS 2 _ (hg.on (HO2.out.trans (by repeat (first | with_reducible exact On.refl _ | apply On.alloc)))) (by simp [go_sem, own, radioS]) (by simp [go_sem, own, Chk.levelS])).mono ?_
      rintro e wc ⟨rfl, hc⟩
      have HOc := Lib.hid (HO2.out.trans (On.trans (by repeat (first | with_reducible exact On.refl _ | apply On.alloc)) hc))
      have Pc := HP2.out.on (On.trans (by repeat (first | with_reducible exact On.refl _ | apply On.alloc)) hc)
      have HPc := Lib.hid Pc
      obtain ⟨p0, p1, p2, p3, p4, p5⟩ := Pc
      clear hc
      go_wp2_with fail
      go_ret2
      exact ⟨ret_ii en.out.1.symm en.out.2.symm, HOc.out⟩
    | true =>
      rw [hok] at CR
      have CR1 := Lib.hid (fun b cap w' hb hp => show Calls Tryd.prog 48 #[.slice (some ⟨b, 0, none⟩) 1 cap] w' fun e w'' => e = .returned ((own radioS 1)) ∧ On w' w'' from CR.out b cap w' hb hp)
      rw [d1] at K1
      have KK1 := Lib.hid (fun v w h => show Calls Tryd.prog 53 #[.string Chk.levelS, v] w fun e w' => e = .returned (.nilIface) ∧ On w w' from K1.out v w h)
      have b1 := B1.out.symm.trans d1
      have en := Lib.hid (show v2 (false) (lvB l) (l - x2 - floorV x3 x4) = 0 ∧ c2 (false) (lvB l) = 1 by rw [b1]; exact ⟨rfl, rfl⟩)
      unfold own radioS Chk.levelS at *
      go_enter Tryd.func22, Tryd.ntmps22
      go_wp2_with fail
      refine (CR1.out _ _ _ (by repeat (first | with_reducible exact On.refl _ | apply On.alloc)) ⟨by simp [go_sem], by simp [go_sem], by simp [go_sem], by simp [go_sem], by simp [go_sem], by simp [go_sem]⟩).mono ?_
      rintro e w1 ⟨rfl, h1⟩
      have l1 : w.heap.size < w1.heap.size := by have := h1.size; simp at this; omega
      have P1 : In w1 w.heap.size x0 x1 x2 x3 x4 (.slice a5 n5 cap5) := In.on ⟨by simp [go_sem], by simp [go_sem], by simp [go_sem], by simp [go_sem], by simp [go_sem], by simp [go_sem]⟩ h1
      have HO1 := Lib.hid (On.trans (On.alloc (On.alloc (On.refl w) _) _) h1)
      have HP1 := Lib.hid P1
      clear P1 h1
      go_wp2_with fail
      refine (KK1.out _ _ (ints1 (by simp [go_sem]))).mono ?_
      rintro e w2 ⟨rfl, h2⟩
      have HO2 := Lib.hid (HO1.out.trans (On.trans (by repeat (first | with_reducible exact On.refl _ | apply On.alloc)) h2))
      have HP2 := Lib.hid (HP1.out.on (On.trans (by repeat (first | with_reducible exact On.refl _ | apply On.alloc)) h2))
      clear h2
      go_wp2_with fail
      refine (Err.first_EN _ _ radioS 1 _ (hg.on (HO2.out.trans (by repeat (first | with_reducible exact On.refl _ | apply On.alloc)))) (by simp [go_sem, own, radioS]) (by simp [go_sem])).mono ?_
      rintro e wc ⟨rfl, hc⟩
      have HOc := Lib.hid (HO2.out.trans (On.trans (by repeat (first | with_reducible exact On.refl _ | apply On.alloc)) hc))
      have Pc := HP2.out.on (On.trans (by repeat (first | with_reducible exact On.refl _ | apply On.alloc)) hc)
      have HPc := Lib.hid Pc
      obtain ⟨p0, p1, p2, p3, p4, p5⟩ := Pc
      clear hc
      go_wp2_with fail
      go_ret2
      exact ⟨ret_ii en.out.1.symm en.out.2.symm, HOc.out⟩
  | true =>
    cases d1 : ([l] : List Int).all Chk.levelB with
    | false =>
      rw [hok] at CR
      have CR1 := Lib.hid (fun b cap w' hb hp => show Calls Tryd.prog 48 #[.slice (some ⟨b, 0, none⟩) 1 cap] w' fun e w'' => e = .returned (.nilIface) ∧ On w' w'' from CR.out b cap w' hb hp)
      rw [d1] at K1
      have KK1 := Lib.hid (fun v w h => show Calls Tryd.prog 53 #[.string Chk.levelS, v] w fun e w' => e = .returned ((own Chk.levelS 2)) ∧ On w w' from K1.out v w h)
      have b1 := B1.out.symm.trans d1
      have en := Lib.hid (show v2 (true) (lvB l) (l - x2 - floorV x3 x4) = 0 ∧ c2 (true) (lvB l) = 2 by rw [b1]; exact ⟨rfl, rfl⟩)
      unfold own radioS Chk.levelS at *
      go_enter Tryd.func22, Tryd.ntmps22
      go_wp2_with fail
      refine (CR1.out _ _ _ (by repeat (first | with_reducible exact On.refl _ | apply On.alloc)) ⟨by simp [go_sem], by simp [go_sem], by simp [go_sem], by simp [go_sem], by simp [go_sem], by simp [go_sem]⟩).mono ?_
      rintro e w1 ⟨rfl, h1⟩
      have l1 : w.heap.size < w1.heap.size := by have := h1.size; simp at this; omega
      have P1 : In w1 w.heap.size x0 x1 x2 x3 x4 (.slice a5 n5 cap5) := In.on ⟨by simp [go_sem], by simp [go_sem], by simp [go_sem], by simp [go_sem], by simp [go_sem], by simp [go_sem]⟩ h1
      have HO1 := Lib.hid (On.trans (On.alloc (On.alloc (On.refl w) _) _) h1)
      have HP1 := Lib.hid P1
      clear P1 h1
      go_wp2_with fail
      refine (KK1.out _ _ (ints1 (by simp [go_sem]))).mono ?_
      rintro e w2 ⟨rfl, h2⟩
      have HO2 := Lib.hid (HO1.out.trans (On.trans (by repeat (first | with_reducible exact On.refl _ | apply On.alloc)) h2))
      have HP2 := Lib.hid (HP1.out.on (On.trans (by repeat (first | with_reducible exact On.refl _ | apply On.alloc)) h2))
      clear h2
      go_wp2_with fail
      refine (Err.first_NE _ _ Chk.levelS 2 _ (hg.on (HO2.out.trans (by repeat (first | with_reducible exact On.refl _ | apply On.alloc)))) (by simp [go_sem]) (by simp [go_sem, own, Chk.levelS])).mono ?_
      rintro e wc ⟨rfl, hc⟩
      have HOc := Lib.hid (HO2.out.trans (On.trans (by repeat (first | with_reducible exact On.refl _ | apply On.alloc)) hc))
      have Pc := HP2.out.on (On.trans (by repeat (first | with_reducible exact On.refl _ | apply On.alloc)) hc)
      have HPc := Lib.hid Pc
      obtain ⟨p0, p1, p2, p3, p4, p5⟩ := Pc
      clear hc
      go_wp2_with fail
      go_ret2
      exact ⟨ret_ii en.out.1.symm en.out.2.symm, HOc.out⟩
    | true =>
      rw [hok] at CR
      have CR1 := Lib.hid (fun b cap w' hb hp => show Calls Tryd.prog 48 #[.slice (some ⟨b, 0, none⟩) 1 cap] w' fun e w'' => e = .returned (.nilIface) ∧ On w' w'' from CR.out b cap w' hb hp)
      rw [d1] at K1
      have KK1 := Lib.hid (fun v w h => show Calls Tryd.prog 53 #[.string Chk.levelS, v] w fun e w' => e = .returned (.nilIface) ∧ On w w' from K1.out v w h)
      have b1 := B1.out.symm.trans d1
      have en := Lib.hid (show v2 (true) (lvB l) (l - x2 - floorV x3 x4) = l - x2 - floorV x3 x4 ∧ c2 (true) (lvB l) = 0 by rw [b1]; exact ⟨rfl, rfl⟩)
      obtain ⟨-, ⟨x11, x12⟩, ⟨f1, f2⟩, ⟨r1, r2⟩, ⟨y1, y2⟩, -⟩ := of_okR hok
      obtain ⟨e0, g0⟩ := of_inB b1
      unfold Chk.levelS at *
      go_enter Tryd.func22, Tryd.ntmps22
      go_wp2_with fail
      refine (CR1.out _ _ _ (by repeat (first | with_reducible exact On.refl _ | apply On.alloc)) ⟨by simp [go_sem], by simp [go_sem], by simp [go_sem], by simp [go_sem], by simp [go_sem], by simp [go_sem]⟩).mono ?_
      rintro e w1 ⟨rfl, h1⟩
      have l1 : w.heap.size < w1.heap.size := by have := h1.size; simp at this; omega
      have P1 : In w1 w.heap.size x0 x1 x2 x3 x4 (.slice a5 n5 cap5) := In.on ⟨by simp [go_sem], by simp [go_sem], by simp [go_sem], by simp [go_sem], by simp [go_sem], by simp [go_sem]⟩ h1
      have HO1 := Lib.hid (On.trans (On.alloc (On.alloc (On.refl w) _) _) h1)
      have HP1 := Lib.hid P1
      clear P1 h1
      go_wp2_with fail
      refine (KK1.out _ _ (ints1 (by simp [go_sem]))).mono ?_
      rintro e w2 ⟨rfl, h2⟩
      have HO2 := Lib.hid (HO1.out.trans (On.trans (by repeat (first | with_reducible exact On.refl _ | apply On.alloc)) h2))
      have HP2 := Lib.hid (HP1.out.on (On.trans (by repeat (first | with_reducible exact On.refl _ | apply On.alloc)) h2))
      clear h2
      go_wp2_with fail
      refine (Err.first_NN _ _  _ (by simp [go_sem]) (by simp [go_sem])).mono ?_
      rintro e wc ⟨rfl, hc⟩
      have HOc := Lib.hid (HO2.out.trans (On.trans (by repeat (first | with_reducible exact On.refl _ | apply On.alloc)) hc))
      have Pc := HP2.out.on (On.trans (by repeat (first | with_reducible exact On.refl _ | apply On.alloc)) hc)
      have HPc := Lib.hid Pc
      obtain ⟨p0, p1, p2, p3, p4, p5⟩ := Pc
      clear hc
      go_wp2_with fail
      refine (parts _ _ _ _ _ _ _ _ _).mono ?_
      rintro e wd ⟨rfl, hd⟩
      go_wp2_with fail
      refine (impl_snr _ _ _ _ _ _ _ _ f1 f2 r1 r2 y2 e0 g0).mono ?_
      rintro e we ⟨rfl, he⟩
      go_wp2_with fail
      go_ret2
      exact ⟨ret_ii en.out.1.symm en.out.2.symm, HOc.out.trans (hd.trans he)⟩
set_option maxRecDepth 100000 in
set_option maxHeartbeats 4000000 in
theorem spec_ArrivingLevel (x0 : ByteArray) (x1 x2 x3 x4 : Int) (v5 : Value) (z5 : List (Int × Int)) (g : Int) (l : Int) (t : Int) (w : World) (q0 : x0.size ≤ 1048576) (q5 : z5.length ≤ 1048576) (h5 : Pairs w v5 z5) :
    Calls Tryd.prog 33 #[.agg #[.string x0, .int .i64 x1, .int .i64 x2, .int .i64 x3, .int .i64 x4, v5], .int .i64 g, .int .i64 l, .int .i64 t] w fun e w' => e = .returned (.tuple #[.int .i64 (v2 (okR x0 x1 x2 x3 x4 z5) (gB g && (gB t && (lsB l))) (x1 - x2 + g - l + t)), .int .i64 (c2 (okR x0 x1 x2 x3 x4 z5) (gB g && (gB t && (lsB l))))]) ∧ On w w' := by
  have HO := Lib.hid (fun w' (hb : On w w') hp => spec_ok w.heap.size x0 x1 x2 x3 x4 v5 z5 w' q0 q5 hp (h5.below hb))
  obtain ⟨a5, n5, cap5, rfl⟩ := anySlice h5
  cases hok : okR x0 x1 x2 x3 x4 z5 with
  | false =>
    rw [hok] at HO
    clear h5
    go_enter Tryd.func33, Tryd.ntmps33
    go_wp2_with fail
    refine (HO.out _ (by repeat (first | with_reducible exact On.refl _ | apply On.alloc)) ⟨by simp [go_sem], by simp [go_sem], by simp [go_sem], by simp [go_sem], by simp [go_sem], by simp [go_sem]⟩).mono ?_
    rintro e w1 ⟨rfl, h1⟩
    have P1 : In w1 w.heap.size x0 x1 x2 x3 x4 (.slice a5 n5 cap5) := In.on ⟨by simp [go_sem], by simp [go_sem], by simp [go_sem], by simp [go_sem], by simp [go_sem], by simp [go_sem]⟩ h1
    have HO1 := Lib.hid (On.trans (On.alloc (On.refl w) _) h1)
    have HP1 := Lib.hid P1
    obtain ⟨p0, p1, p2, p3, p4, p5⟩ := P1
    have z1 : w.heap.size < w1.heap.size := World.block_lt_of_cell? w1 _ p0
    clear h1
    go_wp2_with fail
    go_ret2
    exact ⟨rfl, HO1.out⟩
  | true =>
    rw [hok] at HO
    have BD := of_okR hok
    clear h5
    cases d0 : gB g with
    | false =>
      have en := Lib.hid (show v2 (true) (false && (gB t && (lsB l))) (x1 - x2 + g - l + t) = 0 ∧ c2 (true) (false && (gB t && (lsB l))) = 2 from ⟨rfl, rfl⟩)
      go_enter Tryd.func33, Tryd.ntmps33
      go_wp2_with fail
      refine (HO.out _ (by repeat (first | with_reducible exact On.refl _ | apply On.alloc)) ⟨by simp [go_sem], by simp [go_sem], by simp [go_sem], by simp [go_sem], by simp [go_sem], by simp [go_sem]⟩).mono ?_
      rintro e w1 ⟨rfl, h1⟩
      have P1 : In w1 w.heap.size x0 x1 x2 x3 x4 (.slice a5 n5 cap5) := In.on ⟨by simp [go_sem], by simp [go_sem], by simp [go_sem], by simp [go_sem], by simp [go_sem], by simp [go_sem]⟩ h1
      have HO1 := Lib.hid (On.trans (On.alloc (On.refl w) _) h1)
      have HP1 := Lib.hid P1
      obtain ⟨p0, p1, p2, p3, p4, p5⟩ := P1
      have z1 : w.heap.size < w1.heap.size := World.block_lt_of_cell? w1 _ p0
      clear h1
      go_wp2_with (first | (go_at_call 52; with_reducible refine (spec_gain g _).mono ?_; rintro e w' ⟨rfl, rfl⟩) | (go_at_call 52; with_reducible refine (spec_gain t _).mono ?_; rintro e w' ⟨rfl, rfl⟩) | (go_at_call 67; with_reducible refine (spec_ls l _).mono ?_; rintro e w' ⟨rfl, rfl⟩))
      go_ret2
      exact ⟨ret_ii en.out.1.symm en.out.2.symm, HO1.out⟩
    | true =>
      cases d1 : gB t with
      | false =>
        have en := Lib.hid (show v2 (true) (true && (false && (lsB l))) (x1 - x2 + g - l + t) = 0 ∧ c2 (true) (true && (false && (lsB l))) = 2 from ⟨rfl, rfl⟩)
        go_enter Tryd.func33, Tryd.ntmps33
        go_wp2_with fail
        refine (HO.out _ (by repeat (first | with_reducible exact On.refl _ | apply On.alloc)) ⟨by simp [go_sem], by simp [go_sem], by simp [go_sem], by simp [go_sem], by simp [go_sem], by simp [go_sem]⟩).mono ?_
        rintro e w1 ⟨rfl, h1⟩
        have P1 : In w1 w.heap.size x0 x1 x2 x3 x4 (.slice a5 n5 cap5) := In.on ⟨by simp [go_sem], by simp [go_sem], by simp [go_sem], by simp [go_sem], by simp [go_sem], by simp [go_sem]⟩ h1
        have HO1 := Lib.hid (On.trans (On.alloc (On.refl w) _) h1)
        have HP1 := Lib.hid P1
        obtain ⟨p0, p1, p2, p3, p4, p5⟩ := P1
        have z1 : w.heap.size < w1.heap.size := World.block_lt_of_cell? w1 _ p0
        clear h1
        go_wp2_with (first | (go_at_call 52; with_reducible refine (spec_gain g _).mono ?_; rintro e w' ⟨rfl, rfl⟩) | (go_at_call 52; with_reducible refine (spec_gain t _).mono ?_; rintro e w' ⟨rfl, rfl⟩) | (go_at_call 67; with_reducible refine (spec_ls l _).mono ?_; rintro e w' ⟨rfl, rfl⟩))
        go_ret2
        exact ⟨ret_ii en.out.1.symm en.out.2.symm, HO1.out⟩
      | true =>
        cases d2 : lsB l with
        | false =>
          have en := Lib.hid (show v2 (true) (true && (true && (false))) (x1 - x2 + g - l + t) = 0 ∧ c2 (true) (true && (true && (false))) = 2 from ⟨rfl, rfl⟩)
          go_enter Tryd.func33, Tryd.ntmps33
          go_wp2_with fail
          refine (HO.out _ (by repeat (first | with_reducible exact On.refl _ | apply On.alloc)) ⟨by simp [go_sem], by simp [go_sem], by simp [go_sem], by simp [go_sem], by simp [go_sem], by simp [go_sem]⟩).mono ?_
          rintro e w1 ⟨rfl, h1⟩
          have P1 : In w1 w.heap.size x0 x1 x2 x3 x4 (.slice a5 n5 cap5) := In.on ⟨by simp [go_sem], by simp [go_sem], by simp [go_sem], by simp [go_sem], by simp [go_sem], by simp [go_sem]⟩ h1
          have HO1 := Lib.hid (On.trans (On.alloc (On.refl w) _) h1)
          have HP1 := Lib.hid P1
          obtain ⟨p0, p1, p2, p3, p4, p5⟩ := P1
          have z1 : w.heap.size < w1.heap.size := World.block_lt_of_cell? w1 _ p0
          clear h1
          go_wp2_with (first | (go_at_call 52; with_reducible refine (spec_gain g _).mono ?_; rintro e w' ⟨rfl, rfl⟩) | (go_at_call 52; with_reducible refine (spec_gain t _).mono ?_; rintro e w' ⟨rfl, rfl⟩) | (go_at_call 67; with_reducible refine (spec_ls l _).mono ?_; rintro e w' ⟨rfl, rfl⟩))
          go_ret2
          exact ⟨ret_ii en.out.1.symm en.out.2.symm, HO1.out⟩
        | true =>
          obtain ⟨-, ⟨b1, b2⟩, ⟨f1, f2⟩, ⟨r1, r2⟩, ⟨y1, y2⟩, -⟩ := BD
          obtain ⟨e0, g0⟩ := of_inB d0
          obtain ⟨e1, g1⟩ := of_inB d1
          obtain ⟨e2, g2⟩ := of_inB d2
          have en := Lib.hid (show v2 (true) (true && (true && (true))) (x1 - x2 + g - l + t) = x1 - x2 + g - l + t ∧ c2 (true) (true && (true && (true))) = 0 from ⟨rfl, rfl⟩)
          have wr0 : IntKind.i64.wrap (x1 - x2) = x1 - x2 := IntWalk.i64_in _ (by omega)
          have wr1 : IntKind.i64.wrap (x1 - x2 + g) = x1 - x2 + g := IntWalk.i64_in _ (by omega)
          have wr2 : IntKind.i64.wrap (x1 - x2 + g - l) = x1 - x2 + g - l := IntWalk.i64_in _ (by omega)
          have wr3 : IntKind.i64.wrap (x1 - x2 + g - l + t) = x1 - x2 + g - l + t := IntWalk.i64_in _ (by omega)
          go_enter Tryd.func33, Tryd.ntmps33
          go_wp2_with fail
          refine (HO.out _ (by repeat (first | with_reducible exact On.refl _ | apply On.alloc)) ⟨by simp [go_sem], by simp [go_sem], by simp [go_sem], by simp [go_sem], by simp [go_sem], by simp [go_sem]⟩).mono ?_
          rintro e w1 ⟨rfl, h1⟩
          have P1 : In w1 w.heap.size x0 x1 x2 x3 x4 (.slice a5 n5 cap5) := In.on ⟨by simp [go_sem], by simp [go_sem], by simp [go_sem], by simp [go_sem], by simp [go_sem], by simp [go_sem]⟩ h1
          have HO1 := Lib.hid (On.trans (On.alloc (On.refl w) _) h1)
          have HP1 := Lib.hid P1
          obtain ⟨p0, p1, p2, p3, p4, p5⟩ := P1
          have z1 : w.heap.size < w1.heap.size := World.block_lt_of_cell? w1 _ p0
          clear h1
          go_wp2_with (first | (go_at_call 52; with_reducible refine (spec_gain g _).mono ?_; rintro e w' ⟨rfl, rfl⟩) | (go_at_call 52; with_reducible refine (spec_gain t _).mono ?_; rintro e w' ⟨rfl, rfl⟩) | (go_at_call 67; with_reducible refine (spec_ls l _).mono ?_; rintro e w' ⟨rfl, rfl⟩))
          go_ret2
          exact ⟨ret_ii en.out.1.symm en.out.2.symm, HO1.out⟩
set_option maxRecDepth 100000 in
set_option maxHeartbeats 4000000 in
theorem impl_ArrivingLevel (x0 : ByteArray) (x1 x2 x3 x4 : Int) (v5 : Value) (z5 : List (Int × Int)) (g : Int) (l : Int) (t : Int) (w : World) (q0 : x0.size ≤ 1048576) (q5 : z5.length ≤ 1048576) (h5 : Pairs w v5 z5) (hg : ErrVar w) :
    Calls Tryd.prog 34 #[.agg #[.string x0, .int .i64 x1, .int .i64 x2, .int .i64 x3, .int .i64 x4, v5], .int .i64 g, .int .i64 l, .int .i64 t] w fun e w' => e = .returned (.tuple #[.int .i64 (v2 (okR x0 x1 x2 x3 x4 z5) (gB g && (gB t && (lsB l))) (x1 - x2 + g - l + t)), .int .i64 (c2 (okR x0 x1 x2 x3 x4 z5) (gB g && (gB t && (lsB l))))]) ∧ On w w' := by
  have CR := Lib.hid (fun b cap w' (hb : On w w') hp => check_radios b cap x0 x1 x2 x3 x4 v5 z5 w' q0 q5 (h5.below hb) hp)
  obtain ⟨a5, n5, cap5, rfl⟩ := anySlice h5
  clear q0 q5
  have K1 := Lib.hid (fun v w h => Chk.check_gain v [g, t] w (by simp) h)
  have K2 := Lib.hid (fun v w h => Chk.check_loss v [l] w (by simp) h)
  have B1 := Lib.hid (show ([g, t] : List Int).all Chk.gainB = (gB g && gB t) by simp [List.all_cons, List.all_nil, Bool.and_true]; rfl)
  have B2 := Lib.hid (show ([l] : List Int).all Chk.lossB = (lsB l) by simp [List.all_cons, List.all_nil, Bool.and_true]; rfl)
  cases hok : okR x0 x1 x2 x3 x4 z5 with
  | false =>
    cases d1 : ([g, t] : List Int).all Chk.gainB with
    | false =>
      cases d2 : ([l] : List Int).all Chk.lossB with
      | false =>
        rw [hok] at CR
        have CR1 := Lib.hid (fun b cap w' hb hp => show Calls Tryd.prog 48 #[.slice (some ⟨b, 0, none⟩) 1 cap] w' fun e w'' => e = .returned ((own radioS 1)) ∧ On w' w'' from CR.out b cap w' hb hp)
        rw [d1] at K1
        have KK1 := Lib.hid (fun v w h => show Calls Tryd.prog 53 #[.string Chk.gainS, v] w fun e w' => e = .returned ((own Chk.gainS 2)) ∧ On w w' from K1.out v w h)
        rw [d2] at K2
        have KK2 := Lib.hid (fun v w h => show Calls Tryd.prog 53 #[.string Chk.lossS, v] w fun e w' => e = .returned ((own Chk.lossS 2)) ∧ On w w' from K2.out v w h)
        have b1 := B1.out.symm.trans d1
        have b2 := B2.out.symm.trans d2
        have hgt : (gB g && (gB t && (lsB l))) = false := by
          have q1 := b1
          have q2 := b2
          clear b1 b2
          revert q1 q2
          generalize gB g = u1
          generalize gB t = u2
          generalize lsB l = u3
          cases u1 <;> cases u2 <;> cases u3 <;> simp
        have en := Lib.hid (show v2 (false) (gB g && (gB t && (lsB l))) (x1 - x2 + g - l + t) = 0 ∧ c2 (false) (gB g && (gB t && (lsB l))) = 1 by rw [hgt]; exact ⟨rfl, rfl⟩)
        unfold own radioS Chk.gainS Chk.lossS at *
        go_enter Tryd.func34, Tryd.ntmps34
        go_wp2_with fail
        refine (CR1.out _ _ _ (by repeat (first | with_reducible exact On.refl _ | apply On.alloc)) ⟨by simp [go_sem], by simp [go_sem], by simp [go_sem], by simp [go_sem], by simp [go_sem], by simp [go_sem]⟩).mono ?_
        rintro e w1 ⟨rfl, h1⟩
        have l1 : w.heap.size < w1.heap.size := by have := h1.size; simp at this; omega
        have P1 : In w1 w.heap.size x0 x1 x2 x3 x4 (.slice a5 n5 cap5) := In.on ⟨by simp [go_sem], by simp [go_sem], by simp [go_sem], by simp [go_sem], by simp [go_sem], by simp [go_sem]⟩ h1
        have HO1 := Lib.hid (On.trans (On.alloc (On.alloc (On.refl w) _) _) h1)
        have HP1 := Lib.hid P1
        clear P1 h1
        go_wp2_with fail
        refine (KK1.out _ _ (ints2 (by simp [go_sem]) (by simp [go_sem]))).mono ?_
        rintro e w2 ⟨rfl, h2⟩
        have HO2 := Lib.hid (HO1.out.trans (On.trans (by repeat (first | with_reducible exact On.refl _ | apply On.alloc)) h2))
        have HP2 := Lib.hid (HP1.out.on (On.trans (by repeat (first | with_reducible exact On.refl _ | apply On.alloc)) h2))
        clear h2
        go_wp2_with fail
        refine (KK2.out _ _ (ints1 (by simp [go_sem]))).mono ?_
        rintro e w3 ⟨rfl, h3⟩
        have HO3 := Lib.hid (HO2.out.trans (On.trans (by repeat (first | with_reducible exact On.refl _ | apply On.alloc)) h3))
        have HP3 := Lib.hid (HP2.out.on (On.trans (by repeat (first | with_reducible exact On.refl _ | apply On.alloc)) h3))
        clear h3
        go_wp2_with fail
        refine (Err.first_EEE _ _ radioS 1 Chk.gainS 2 Chk.lossS 2 _ (hg.on (HO3.out.trans (by repeat (first | with_reducible exact On.refl _ | apply On.alloc)))) (by simp [go_sem, own, radioS]) (by simp [go_sem, own, Chk.gainS]) (by simp [go_sem, own, Chk.lossS])).mono ?_
        rintro e wc ⟨rfl, hc⟩
        have HOc := Lib.hid (HO3.out.trans (On.trans (by repeat (first | with_reducible exact On.refl _ | apply On.alloc)) hc))
        have Pc := HP3.out.on (On.trans (by repeat (first | with_reducible exact On.refl _ | apply On.alloc)) hc)
        have HPc := Lib.hid Pc
        obtain ⟨p0, p1, p2, p3, p4, p5⟩ := Pc
        clear hc
        go_wp2_with fail
        go_ret2
        exact ⟨ret_ii en.out.1.symm en.out.2.symm, HOc.out⟩
      | true =>
        rw [hok] at CR
        have CR1 := Lib.hid (fun b cap w' hb hp => show Calls Tryd.prog 48 #[.slice (some ⟨b, 0, none⟩) 1 cap] w' fun e w'' => e = .returned ((own radioS 1)) ∧ On w' w'' from CR.out b cap w' hb hp)
        rw [d1] at K1
        have KK1 := Lib.hid (fun v w h => show Calls Tryd.prog 53 #[.string Chk.gainS, v] w fun e w' => e = .returned ((own Chk.gainS 2)) ∧ On w w' from K1.out v w h)
        rw [d2] at K2
        have KK2 := Lib.hid (fun v w h => show Calls Tryd.prog 53 #[.string Chk.lossS, v] w fun e w' => e = .returned (.nilIface) ∧ On w w' from K2.out v w h)
        have b1 := B1.out.symm.trans d1
        have b2 := B2.out.symm.trans d2
        have hgt : (gB g && (gB t && (lsB l))) = false := by
          have q1 := b1
          have q2 := b2
          clear b1 b2
          revert q1 q2
          generalize gB g = u1
          generalize gB t = u2
          generalize lsB l = u3
          cases u1 <;> cases u2 <;> cases u3 <;> simp
        have en := Lib.hid (show v2 (false) (gB g && (gB t && (lsB l))) (x1 - x2 + g - l + t) = 0 ∧ c2 (false) (gB g && (gB t && (lsB l))) = 1 by rw [hgt]; exact ⟨rfl, rfl⟩)
        unfold own radioS Chk.gainS Chk.lossS at *
        go_enter Tryd.func34, Tryd.ntmps34
        go_wp2_with fail
        refine (CR1.out _ _ _ (by repeat (first | with_reducible exact On.refl _ | apply On.alloc)) ⟨by simp [go_sem], by simp [go_sem], by simp [go_sem], by simp [go_sem], by simp [go_sem], by simp [go_sem]⟩).mono ?_
        rintro e w1 ⟨rfl, h1⟩
        have l1 : w.heap.size < w1.heap.size := by have := h1.size; simp at this; omega
        have P1 : In w1 w.heap.size x0 x1 x2 x3 x4 (.slice a5 n5 cap5) := In.on ⟨by simp [go_sem], by simp [go_sem], by simp [go_sem], by simp [go_sem], by simp [go_sem], by simp [go_sem]⟩ h1
        have HO1 := Lib.hid (On.trans (On.alloc (On.alloc (On.refl w) _) _) h1)
        have HP1 := Lib.hid P1
        clear P1 h1
        go_wp2_with fail
        refine (KK1.out _ _ (ints2 (by simp [go_sem]) (by simp [go_sem]))).mono ?_
        rintro e w2 ⟨rfl, h2⟩
        have HO2 := Lib.hid (HO1.out.trans (On.trans (by repeat (first | with_reducible exact On.refl _ | apply On.alloc)) h2))
        have HP2 := Lib.hid (HP1.out.on (On.trans (by repeat (first | with_reducible exact On.refl _ | apply On.alloc)) h2))
        clear h2
        go_wp2_with fail
        refine (KK2.out _ _ (ints1 (by simp [go_sem]))).mono ?_
        rintro e w3 ⟨rfl, h3⟩
        have HO3 := Lib.hid (HO2.out.trans (On.trans (by repeat (first | with_reducible exact On.refl _ | apply On.alloc)) h3))
        have HP3 := Lib.hid (HP2.out.on (On.trans (by repeat (first | with_reducible exact On.refl _ | apply On.alloc)) h3))
        clear h3
        go_wp2_with fail
        refine (Err.first_EEN _ _ radioS 1 Chk.gainS 2 _ (hg.on (HO3.out.trans (by repeat (first | with_reducible exact On.refl _ | apply On.alloc)))) (by simp [go_sem, own, radioS]) (by simp [go_sem, own, Chk.gainS]) (by simp [go_sem])).mono ?_
        rintro e wc ⟨rfl, hc⟩
        have HOc := Lib.hid (HO3.out.trans (On.trans (by repeat (first | with_reducible exact On.refl _ | apply On.alloc)) hc))
        have Pc := HP3.out.on (On.trans (by repeat (first | with_reducible exact On.refl _ | apply On.alloc)) hc)
        have HPc := Lib.hid Pc
        obtain ⟨p0, p1, p2, p3, p4, p5⟩ := Pc
        clear hc
        go_wp2_with fail
        go_ret2
        exact ⟨ret_ii en.out.1.symm en.out.2.symm, HOc.out⟩
    | true =>
      cases d2 : ([l] : List Int).all Chk.lossB with
      | false =>
        rw [hok] at CR
        have CR1 := Lib.hid (fun b cap w' hb hp => show Calls Tryd.prog 48 #[.slice (some ⟨b, 0, none⟩) 1 cap] w' fun e w'' => e = .returned ((own radioS 1)) ∧ On w' w'' from CR.out b cap w' hb hp)
        rw [d1] at K1
        have KK1 := Lib.hid (fun v w h => show Calls Tryd.prog 53 #[.string Chk.gainS, v] w fun e w' => e = .returned (.nilIface) ∧ On w w' from K1.out v w h)
        rw [d2] at K2
        have KK2 := Lib.hid (fun v w h => show Calls Tryd.prog 53 #[.string Chk.lossS, v] w fun e w' => e = .returned ((own Chk.lossS 2)) ∧ On w w' from K2.out v w h)
        have b1 := B1.out.symm.trans d1
        have b2 := B2.out.symm.trans d2
        have hgt : (gB g && (gB t && (lsB l))) = false := by
          have q1 := b1
          have q2 := b2
          clear b1 b2
          revert q1 q2
          generalize gB g = u1
          generalize gB t = u2
          generalize lsB l = u3
          cases u1 <;> cases u2 <;> cases u3 <;> simp
        have en := Lib.hid (show v2 (false) (gB g && (gB t && (lsB l))) (x1 - x2 + g - l + t) = 0 ∧ c2 (false) (gB g && (gB t && (lsB l))) = 1 by rw [hgt]; exact ⟨rfl, rfl⟩)
        unfold own radioS Chk.gainS Chk.lossS at *
        go_enter Tryd.func34, Tryd.ntmps34
        go_wp2_with fail
        refine (CR1.out _ _ _ (by repeat (first | with_reducible exact On.refl _ | apply On.alloc)) ⟨by simp [go_sem], by simp [go_sem], by simp [go_sem], by simp [go_sem], by simp [go_sem], by simp [go_sem]⟩).mono ?_
        rintro e w1 ⟨rfl, h1⟩
        have l1 : w.heap.size < w1.heap.size := by have := h1.size; simp at this; omega
        have P1 : In w1 w.heap.size x0 x1 x2 x3 x4 (.slice a5 n5 cap5) := In.on ⟨by simp [go_sem], by simp [go_sem], by simp [go_sem], by simp [go_sem], by simp [go_sem], by simp [go_sem]⟩ h1
        have HO1 := Lib.hid (On.trans (On.alloc (On.alloc (On.refl w) _) _) h1)
        have HP1 := Lib.hid P1
        clear P1 h1
        go_wp2_with fail
        refine (KK1.out _ _ (ints2 (by simp [go_sem]) (by simp [go_sem]))).mono ?_
        rintro e w2 ⟨rfl, h2⟩
        have HO2 := Lib.hid (HO1.out.trans (On.trans (by repeat (first | with_reducible exact On.refl _ | apply On.alloc)) h2))
        have HP2 := Lib.hid (HP1.out.on (On.trans (by repeat (first | with_reducible exact On.refl _ | apply On.alloc)) h2))
        clear h2
        go_wp2_with fail
        refine (KK2.out _ _ (ints1 (by simp [go_sem]))).mono ?_
        rintro e w3 ⟨rfl, h3⟩
        have HO3 := Lib.hid (HO2.out.trans (On.trans (by repeat (first | with_reducible exact On.refl _ | apply On.alloc)) h3))
        have HP3 := Lib.hid (HP2.out.on (On.trans (by repeat (first | with_reducible exact On.refl _ | apply On.alloc)) h3))
        clear h3
        go_wp2_with fail
        refine (Err.first_ENE _ _ radioS 1 Chk.lossS 2 _ (hg.on (HO3.out.trans (by repeat (first | with_reducible exact On.refl _ | apply On.alloc)))) (by simp [go_sem, own, radioS]) (by simp [go_sem]) (by simp [go_sem, own, Chk.lossS])).mono ?_
        rintro e wc ⟨rfl, hc⟩
        have HOc := Lib.hid (HO3.out.trans (On.trans (by repeat (first | with_reducible exact On.refl _ | apply On.alloc)) hc))
        have Pc := HP3.out.on (On.trans (by repeat (first | with_reducible exact On.refl _ | apply On.alloc)) hc)
        have HPc := Lib.hid Pc
        obtain ⟨p0, p1, p2, p3, p4, p5⟩ := Pc
        clear hc
        go_wp2_with fail
        go_ret2
        exact ⟨ret_ii en.out.1.symm en.out.2.symm, HOc.out⟩
      | true =>
        rw [hok] at CR
        have CR1 := Lib.hid (fun b cap w' hb hp => show Calls Tryd.prog 48 #[.slice (some ⟨b, 0, none⟩) 1 cap] w' fun e w'' => e = .returned ((own radioS 1)) ∧ On w' w'' from CR.out b cap w' hb hp)
        rw [d1] at K1
        have KK1 := Lib.hid (fun v w h => show Calls Tryd.prog 53 #[.string Chk.gainS, v] w fun e w' => e = .returned (.nilIface) ∧ On w w' from K1.out v w h)
        rw [d2] at K2
        have KK2 := Lib.hid (fun v w h => show Calls Tryd.prog 53 #[.string Chk.lossS, v] w fun e w' => e = .returned (.nilIface) ∧ On w w' from K2.out v w h)
        have b1 := B1.out.symm.trans d1
        have b2 := B2.out.symm.trans d2
        have hgt : (gB g && (gB t && (lsB l))) = true := by
          have q1 := b1
          have q2 := b2
          clear b1 b2
          revert q1 q2
          generalize gB g = u1
          generalize gB t = u2
          generalize lsB l = u3
          cases u1 <;> cases u2 <;> cases u3 <;> simp
        have en := Lib.hid (show v2 (false) (gB g && (gB t && (lsB l))) (x1 - x2 + g - l + t) = 0 ∧ c2 (false) (gB g && (gB t && (lsB l))) = 1 by rw [hgt]; exact ⟨rfl, rfl⟩)
        unfold own radioS Chk.gainS Chk.lossS at *
        go_enter Tryd.func34, Tryd.ntmps34
        go_wp2_with fail
        refine (CR1.out _ _ _ (by repeat (first | with_reducible exact On.refl _ | apply On.alloc)) ⟨by simp [go_sem], by simp [go_sem], by simp [go_sem], by simp [go_sem], by simp [go_sem], by simp [go_sem]⟩).mono ?_
        rintro e w1 ⟨rfl, h1⟩
        have l1 : w.heap.size < w1.heap.size := by have := h1.size; simp at this; omega
        have P1 : In w1 w.heap.size x0 x1 x2 x3 x4 (.slice a5 n5 cap5) := In.on ⟨by simp [go_sem], by simp [go_sem], by simp [go_sem], by simp [go_sem], by simp [go_sem], by simp [go_sem]⟩ h1
        have HO1 := Lib.hid (On.trans (On.alloc (On.alloc (On.refl w) _) _) h1)
        have HP1 := Lib.hid P1
        clear P1 h1
        go_wp2_with fail
        refine (KK1.out _ _ (ints2 (by simp [go_sem]) (by simp [go_sem]))).mono ?_
        rintro e w2 ⟨rfl, h2⟩
        have HO2 := Lib.hid (HO1.out.trans (On.trans (by repeat (first | with_reducible exact On.refl _ | apply On.alloc)) h2))
        have HP2 := Lib.hid (HP1.out.on (On.trans (by repeat (first | with_reducible exact On.refl _ | apply On.alloc)) h2))
        clear h2
        go_wp2_with fail
        refine (KK2.out _ _ (ints1 (by simp [go_sem]))).mono ?_
        rintro e w3 ⟨rfl, h3⟩
        have HO3 := Lib.hid (HO2.out.trans (On.trans (by repeat (first | with_reducible exact On.refl _ | apply On.alloc)) h3))
        have HP3 := Lib.hid (HP2.out.on (On.trans (by repeat (first | with_reducible exact On.refl _ | apply On.alloc)) h3))
        clear h3
        go_wp2_with fail
        refine (Err.first_ENN _ _ radioS 1 _ (hg.on (HO3.out.trans (by repeat (first | with_reducible exact On.refl _ | apply On.alloc)))) (by simp [go_sem, own, radioS]) (by simp [go_sem]) (by simp [go_sem])).mono ?_
        rintro e wc ⟨rfl, hc⟩
        have HOc := Lib.hid (HO3.out.trans (On.trans (by repeat (first | with_reducible exact On.refl _ | apply On.alloc)) hc))
        have Pc := HP3.out.on (On.trans (by repeat (first | with_reducible exact On.refl _ | apply On.alloc)) hc)
        have HPc := Lib.hid Pc
        obtain ⟨p0, p1, p2, p3, p4, p5⟩ := Pc
        clear hc
        go_wp2_with fail
        go_ret2
        exact ⟨ret_ii en.out.1.symm en.out.2.symm, HOc.out⟩
  | true =>
    cases d1 : ([g, t] : List Int).all Chk.gainB with
    | false =>
      cases d2 : ([l] : List Int).all Chk.lossB with
      | false =>
        rw [hok] at CR
        have CR1 := Lib.hid (fun b cap w' hb hp => show Calls Tryd.prog 48 #[.slice (some ⟨b, 0, none⟩) 1 cap] w' fun e w'' => e = .returned (.nilIface) ∧ On w' w'' from CR.out b cap w' hb hp)
        rw [d1] at K1
        have KK1 := Lib.hid (fun v w h => show Calls Tryd.prog 53 #[.string Chk.gainS, v] w fun e w' => e = .returned ((own Chk.gainS 2)) ∧ On w w' from K1.out v w h)
        rw [d2] at K2
        have KK2 := Lib.hid (fun v w h => show Calls Tryd.prog 53 #[.string Chk.lossS, v] w fun e w' => e = .returned ((own Chk.lossS 2)) ∧ On w w' from K2.out v w h)
        have b1 := B1.out.symm.trans d1
        have b2 := B2.out.symm.trans d2
        have hgt : (gB g && (gB t && (lsB l))) = false := by
          have q1 := b1
          have q2 := b2
          clear b1 b2
          revert q1 q2
          generalize gB g = u1
          generalize gB t = u2
          generalize lsB l = u3
          cases u1 <;> cases u2 <;> cases u3 <;> simp
        have en := Lib.hid (show v2 (true) (gB g && (gB t && (lsB l))) (x1 - x2 + g - l + t) = 0 ∧ c2 (true) (gB g && (gB t && (lsB l))) = 2 by rw [hgt]; exact ⟨rfl, rfl⟩)
        unfold own radioS Chk.gainS Chk.lossS at *
        go_enter Tryd.func34, Tryd.ntmps34
        go_wp2_with fail
        refine (CR1.out _ _ _ (by repeat (first | with_reducible exact On.refl _ | apply On.alloc)) ⟨by simp [go_sem], by simp [go_sem], by simp [go_sem], by simp [go_sem], by simp [go_sem], by simp [go_sem]⟩).mono ?_
        rintro e w1 ⟨rfl, h1⟩
        have l1 : w.heap.size < w1.heap.size := by have := h1.size; simp at this; omega
        have P1 : In w1 w.heap.size x0 x1 x2 x3 x4 (.slice a5 n5 cap5) := In.on ⟨by simp [go_sem], by simp [go_sem], by simp [go_sem], by simp [go_sem], by simp [go_sem], by simp [go_sem]⟩ h1
        have HO1 := Lib.hid (On.trans (On.alloc (On.alloc (On.refl w) _) _) h1)
        have HP1 := Lib.hid P1
        clear P1 h1
        go_wp2_with fail
        refine (KK1.out _ _ (ints2 (by simp [go_sem]) (by simp [go_sem]))).mono ?_
        rintro e w2 ⟨rfl, h2⟩
        have HO2 := Lib.hid (HO1.out.trans (On.trans (by repeat (first | with_reducible exact On.refl _ | apply On.alloc)) h2))
        have HP2 := Lib.hid (HP1.out.on (On.trans (by repeat (first | with_reducible exact On.refl _ | apply On.alloc)) h2))
        clear h2
        go_wp2_with fail
        refine (KK2.out _ _ (ints1 (by simp [go_sem]))).mono ?_
        rintro e w3 ⟨rfl, h3⟩
        have HO3 := Lib.hid (HO2.out.trans (On.trans (by repeat (first | with_reducible exact On.refl _ | apply On.alloc)) h3))
        have HP3 := Lib.hid (HP2.out.on (On.trans (by repeat (first | with_reducible exact On.refl _ | apply On.alloc)) h3))
        clear h3
        go_wp2_with fail
        refine (Err.first_NEE _ _ Chk.gainS 2 Chk.lossS 2 _ (hg.on (HO3.out.trans (by repeat (first | with_reducible exact On.refl _ | apply On.alloc)))) (by simp [go_sem]) (by simp [go_sem, own, Chk.gainS]) (by simp [go_sem, own, Chk.lossS])).mono ?_
        rintro e wc ⟨rfl, hc⟩
        have HOc := Lib.hid (HO3.out.trans (On.trans (by repeat (first | with_reducible exact On.refl _ | apply On.alloc)) hc))
        have Pc := HP3.out.on (On.trans (by repeat (first | with_reducible exact On.refl _ | apply On.alloc)) hc)
        have HPc := Lib.hid Pc
        obtain ⟨p0, p1, p2, p3, p4, p5⟩ := Pc
        clear hc
        go_wp2_with fail
        go_ret2
        exact ⟨ret_ii en.out.1.symm en.out.2.symm, HOc.out⟩
      | true =>
        rw [hok] at CR
        have CR1 := Lib.hid (fun b cap w' hb hp => show Calls Tryd.prog 48 #[.slice (some ⟨b, 0, none⟩) 1 cap] w' fun e w'' => e = .returned (.nilIface) ∧ On w' w'' from CR.out b cap w' hb hp)
        rw [d1] at K1
        have KK1 := Lib.hid (fun v w h => show Calls Tryd.prog 53 #[.string Chk.gainS, v] w fun e w' => e = .returned ((own Chk.gainS 2)) ∧ On w w' from K1.out v w h)
        rw [d2] at K2
        have KK2 := Lib.hid (fun v w h => show Calls Tryd.prog 53 #[.string Chk.lossS, v] w fun e w' => e = .returned (.nilIface) ∧ On w w' from K2.out v w h)
        have b1 := B1.out.symm.trans d1
        have b2 := B2.out.symm.trans d2
        have hgt : (gB g && (gB t && (lsB l))) = false := by
          have q1 := b1
          have q2 := b2
          clear b1 b2
          revert q1 q2
          generalize gB g = u1
          generalize gB t = u2
          generalize lsB l = u3
          cases u1 <;> cases u2 <;> cases u3 <;> simp
        have en := Lib.hid (show v2 (true) (gB g && (gB t && (lsB l))) (x1 - x2 + g - l + t) = 0 ∧ c2 (true) (gB g && (gB t && (lsB l))) = 2 by rw [hgt]; exact ⟨rfl, rfl⟩)
        unfold own radioS Chk.gainS Chk.lossS at *
        go_enter Tryd.func34, Tryd.ntmps34
        go_wp2_with fail
        refine (CR1.out _ _ _ (by repeat (first | with_reducible exact On.refl _ | apply On.alloc)) ⟨by simp [go_sem], by simp [go_sem], by simp [go_sem], by simp [go_sem], by simp [go_sem], by simp [go_sem]⟩).mono ?_
        rintro e w1 ⟨rfl, h1⟩
        have l1 : w.heap.size < w1.heap.size := by have := h1.size; simp at this; omega
        have P1 : In w1 w.heap.size x0 x1 x2 x3 x4 (.slice a5 n5 cap5) := In.on ⟨by simp [go_sem], by simp [go_sem], by simp [go_sem], by simp [go_sem], by simp [go_sem], by simp [go_sem]⟩ h1
        have HO1 := Lib.hid (On.trans (On.alloc (On.alloc (On.refl w) _) _) h1)
        have HP1 := Lib.hid P1
        clear P1 h1
        go_wp2_with fail
        refine (KK1.out _ _ (ints2 (by simp [go_sem]) (by simp [go_sem]))).mono ?_
        rintro e w2 ⟨rfl, h2⟩
        have HO2 := Lib.hid (HO1.out.trans (On.trans (by repeat (first | with_reducible exact On.refl _ | apply On.alloc)) h2))
        have HP2 := Lib.hid (HP1.out.on (On.trans (by repeat (first | with_reducible exact On.refl _ | apply On.alloc)) h2))
        clear h2
        go_wp2_with fail
        refine (KK2.out _ _ (ints1 (by simp [go_sem]))).mono ?_
        rintro e w3 ⟨rfl, h3⟩
        have HO3 := Lib.hid (HO2.out.trans (On.trans (by repeat (first | with_reducible exact On.refl _ | apply On.alloc)) h3))
        have HP3 := Lib.hid (HP2.out.on (On.trans (by repeat (first | with_reducible exact On.refl _ | apply On.alloc)) h3))
        clear h3
        go_wp2_with fail
        refine (Err.first_NEN _ _ Chk.gainS 2 _ (hg.on (HO3.out.trans (by repeat (first | with_reducible exact On.refl _ | apply On.alloc)))) (by simp [go_sem]) (by simp [go_sem, own, Chk.gainS]) (by simp [go_sem])).mono ?_
        rintro e wc ⟨rfl, hc⟩
        have HOc := Lib.hid (HO3.out.trans (On.trans (by repeat (first | with_reducible exact On.refl _ | apply On.alloc)) hc))
        have Pc := HP3.out.on (On.trans (by repeat (first | with_reducible exact On.refl _ | apply On.alloc)) hc)
        have HPc := Lib.hid Pc
        obtain ⟨p0, p1, p2, p3, p4, p5⟩ := Pc
        clear hc
        go_wp2_with fail
        go_ret2
        exact ⟨ret_ii en.out.1.symm en.out.2.symm, HOc.out⟩
    | true =>
      cases d2 : ([l] : List Int).all Chk.lossB with
      | false =>
        rw [hok] at CR
        have CR1 := Lib.hid (fun b cap w' hb hp => show Calls Tryd.prog 48 #[.slice (some ⟨b, 0, none⟩) 1 cap] w' fun e w'' => e = .returned (.nilIface) ∧ On w' w'' from CR.out b cap w' hb hp)
        rw [d1] at K1
        have KK1 := Lib.hid (fun v w h => show Calls Tryd.prog 53 #[.string Chk.gainS, v] w fun e w' => e = .returned (.nilIface) ∧ On w w' from K1.out v w h)
        rw [d2] at K2
        have KK2 := Lib.hid (fun v w h => show Calls Tryd.prog 53 #[.string Chk.lossS, v] w fun e w' => e = .returned ((own Chk.lossS 2)) ∧ On w w' from K2.out v w h)
        have b1 := B1.out.symm.trans d1
        have b2 := B2.out.symm.trans d2
        have hgt : (gB g && (gB t && (lsB l))) = false := by
          have q1 := b1
          have q2 := b2
          clear b1 b2
          revert q1 q2
          generalize gB g = u1
          generalize gB t = u2
          generalize lsB l = u3
          cases u1 <;> cases u2 <;> cases u3 <;> simp
        have en := Lib.hid (show v2 (true) (gB g && (gB t && (lsB l))) (x1 - x2 + g - l + t) = 0 ∧ c2 (true) (gB g && (gB t && (lsB l))) = 2 by rw [hgt]; exact ⟨rfl, rfl⟩)
        unfold own radioS Chk.gainS Chk.lossS at *
        go_enter Tryd.func34, Tryd.ntmps34
        go_wp2_with fail
        refine (CR1.out _ _ _ (by repeat (first | with_reducible exact On.refl _ | apply On.alloc)) ⟨by simp [go_sem], by simp [go_sem], by simp [go_sem], by simp [go_sem], by simp [go_sem], by simp [go_sem]⟩).mono ?_
        rintro e w1 ⟨rfl, h1⟩
        have l1 : w.heap.size < w1.heap.size := by have := h1.size; simp at this; omega
        have P1 : In w1 w.heap.size x0 x1 x2 x3 x4 (.slice a5 n5 cap5) := In.on ⟨by simp [go_sem], by simp [go_sem], by simp [go_sem], by simp [go_sem], by simp [go_sem], by simp [go_sem]⟩ h1
        have HO1 := Lib.hid (On.trans (On.alloc (On.alloc (On.refl w) _) _) h1)
        have HP1 := Lib.hid P1
        clear P1 h1
        go_wp2_with fail
        refine (KK1.out _ _ (ints2 (by simp [go_sem]) (by simp [go_sem]))).mono ?_
        rintro e w2 ⟨rfl, h2⟩
        have HO2 := Lib.hid (HO1.out.trans (On.trans (by repeat (first | with_reducible exact On.refl _ | apply On.alloc)) h2))
        have HP2 := Lib.hid (HP1.out.on (On.trans (by repeat (first | with_reducible exact On.refl _ | apply On.alloc)) h2))
        clear h2
        go_wp2_with fail
        refine (KK2.out _ _ (ints1 (by simp [go_sem]))).mono ?_
        rintro e w3 ⟨rfl, h3⟩
        have HO3 := Lib.hid (HO2.out.trans (On.trans (by repeat (first | with_reducible exact On.refl _ | apply On.alloc)) h3))
        have HP3 := Lib.hid (HP2.out.on (On.trans (by repeat (first | with_reducible exact On.refl _ | apply On.alloc)) h3))
        clear h3
        go_wp2_with fail
        refine (Err.first_NNE _ _ Chk.lossS 2 _ (hg.on (HO3.out.trans (by repeat (first | with_reducible exact On.refl _ | apply On.alloc)))) (by simp [go_sem]) (by simp [go_sem]) (by simp [go_sem, own, Chk.lossS])).mono ?_
        rintro e wc ⟨rfl, hc⟩
        have HOc := Lib.hid (HO3.out.trans (On.trans (by repeat (first | with_reducible exact On.refl _ | apply On.alloc)) hc))
        have Pc := HP3.out.on (On.trans (by repeat (first | with_reducible exact On.refl _ | apply On.alloc)) hc)
        have HPc := Lib.hid Pc
        obtain ⟨p0, p1, p2, p3, p4, p5⟩ := Pc
        clear hc
        go_wp2_with fail
        go_ret2
        exact ⟨ret_ii en.out.1.symm en.out.2.symm, HOc.out⟩
      | true =>
        rw [hok] at CR
        have CR1 := Lib.hid (fun b cap w' hb hp => show Calls Tryd.prog 48 #[.slice (some ⟨b, 0, none⟩) 1 cap] w' fun e w'' => e = .returned (.nilIface) ∧ On w' w'' from CR.out b cap w' hb hp)
        rw [d1] at K1
        have KK1 := Lib.hid (fun v w h => show Calls Tryd.prog 53 #[.string Chk.gainS, v] w fun e w' => e = .returned (.nilIface) ∧ On w w' from K1.out v w h)
        rw [d2] at K2
        have KK2 := Lib.hid (fun v w h => show Calls Tryd.prog 53 #[.string Chk.lossS, v] w fun e w' => e = .returned (.nilIface) ∧ On w w' from K2.out v w h)
        have b1 := B1.out.symm.trans d1
        have b2 := B2.out.symm.trans d2
        have hgt : (gB g && (gB t && (lsB l))) = true := by
          have q1 := b1
          have q2 := b2
          clear b1 b2
          revert q1 q2
          generalize gB g = u1
          generalize gB t = u2
          generalize lsB l = u3
          cases u1 <;> cases u2 <;> cases u3 <;> simp
        have en := Lib.hid (show v2 (true) (gB g && (gB t && (lsB l))) (x1 - x2 + g - l + t) = x1 - x2 + g - l + t ∧ c2 (true) (gB g && (gB t && (lsB l))) = 0 by rw [hgt]; exact ⟨rfl, rfl⟩)
        obtain ⟨-, ⟨x11, x12⟩, ⟨f1, f2⟩, ⟨r1, r2⟩, ⟨y1, y2⟩, -⟩ := of_okR hok
        rw [Bool.and_eq_true] at b1
        obtain ⟨e0, g0⟩ := of_inB b1.1
        obtain ⟨e1, g1⟩ := of_inB b1.2
        obtain ⟨e2, g2⟩ := of_inB b2
        have wr0 : IntKind.i64.wrap (x1 - x2 + g - l) = x1 - x2 + g - l := IntWalk.i64_in _ (by omega)
        have wr1 : IntKind.i64.wrap (x1 - x2 + g - l + t) = x1 - x2 + g - l + t := IntWalk.i64_in _ (by omega)
        unfold Chk.gainS Chk.lossS at *
        go_enter Tryd.func34, Tryd.ntmps34
        go_wp2_with fail
        refine (CR1.out _ _ _ (by repeat (first | with_reducible exact On.refl _ | apply On.alloc)) ⟨by simp [go_sem], by simp [go_sem], by simp [go_sem], by simp [go_sem], by simp [go_sem], by simp [go_sem]⟩).mono ?_
        rintro e w1 ⟨rfl, h1⟩
        have l1 : w.heap.size < w1.heap.size := by have := h1.size; simp at this; omega
        have P1 : In w1 w.heap.size x0 x1 x2 x3 x4 (.slice a5 n5 cap5) := In.on ⟨by simp [go_sem], by simp [go_sem], by simp [go_sem], by simp [go_sem], by simp [go_sem], by simp [go_sem]⟩ h1
        have HO1 := Lib.hid (On.trans (On.alloc (On.alloc (On.refl w) _) _) h1)
        have HP1 := Lib.hid P1
        clear P1 h1
        go_wp2_with fail
        refine (KK1.out _ _ (ints2 (by simp [go_sem]) (by simp [go_sem]))).mono ?_
        rintro e w2 ⟨rfl, h2⟩
        have HO2 := Lib.hid (HO1.out.trans (On.trans (by repeat (first | with_reducible exact On.refl _ | apply On.alloc)) h2))
        have HP2 := Lib.hid (HP1.out.on (On.trans (by repeat (first | with_reducible exact On.refl _ | apply On.alloc)) h2))
        clear h2
        go_wp2_with fail
        refine (KK2.out _ _ (ints1 (by simp [go_sem]))).mono ?_
        rintro e w3 ⟨rfl, h3⟩
        have HO3 := Lib.hid (HO2.out.trans (On.trans (by repeat (first | with_reducible exact On.refl _ | apply On.alloc)) h3))
        have HP3 := Lib.hid (HP2.out.on (On.trans (by repeat (first | with_reducible exact On.refl _ | apply On.alloc)) h3))
        clear h3
        go_wp2_with fail
        refine (Err.first_NNN _ _  _ (by simp [go_sem]) (by simp [go_sem]) (by simp [go_sem])).mono ?_
        rintro e wc ⟨rfl, hc⟩
        have HOc := Lib.hid (HO3.out.trans (On.trans (by repeat (first | with_reducible exact On.refl _ | apply On.alloc)) hc))
        have Pc := HP3.out.on (On.trans (by repeat (first | with_reducible exact On.refl _ | apply On.alloc)) hc)
        have HPc := Lib.hid Pc
        obtain ⟨p0, p1, p2, p3, p4, p5⟩ := Pc
        clear hc
        go_wp2_with fail
        refine (parts _ _ _ _ _ _ _ _ _).mono ?_
        rintro e wd ⟨rfl, hd⟩
        go_wp2_with fail
        refine (impl_eirp _ _ _ _ _ _ _ _ _ x11 x12 f1 f2 e0 g0).mono ?_
        rintro e we ⟨rfl, he⟩
        go_wp2_with fail
        go_ret2
        exact ⟨ret_ii en.out.1.symm en.out.2.symm, HOc.out.trans (hd.trans he)⟩
end Go.Proofs.YtknggnchldcghacDoor.Rad
