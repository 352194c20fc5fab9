
/-
  Offsets, lines and clearances of a profile, in the model and in the program. Condition: at most 1048576 heights.
-/
import Derived.Test.YtmmhekakihimfaaProfOk2
import Derived.Test.YtmmhekakihimfaaEarth
import Derived.Test.YtmmhekakihimfaaOnH
namespace Go.Proofs.Ytmmhekakihimfaa.Prof
open Go.RowKit
open Plain
open Ints (Ints Own)

theorem near_frac {d i n : Int} (d0 : 0 ≤ d) (i0 : 0 ≤ i) (i1 : i ≤ n) (n0 : 0 < n) : 0 ≤ near (d * i) n ∧ near (d * i) n ≤ d := by
  have a0 : 0 ≤ d * i := Int.mul_nonneg d0 i0
  have a1 : d * i ≤ d * n := Int.mul_le_mul_of_nonneg_left i1 d0
  have e : (d + 1) * (2 * n) = 2 * (d * n) + 2 * n := by rw [Int.add_mul, Int.one_mul, Int.mul_left_comm]
  rw [near_div_pp _ _ n0 a0]
  refine ⟨Int.ediv_nonneg (by omega) (by omega), ?_⟩
  have : (2 * (d * i) + n) / (2 * n) < d + 1 := Int.ediv_lt_of_lt_mul (by omega) (by rw [e]; omega)
  omega
theorem mul_bd {a b : Int} (a0 : 0 ≤ a) (a1 : a ≤ 283000) (b0 : 0 ≤ b) (b1 : b ≤ 64) : 0 ≤ a * b ∧ a * b ≤ 18112000 := by
  have h1 : a * b ≤ 283000 * b := Int.mul_le_mul_of_nonneg_right a1 b0
  have h2 : 0 ≤ a * b := Int.mul_nonneg a0 b0
  omega
/-- The offset of a point, the line at it. -/
def off (d n i : Int) : Int := if n < 2 * i then d - near (d * (n - i)) n else near (d * i) n
theorem off_hi {d n i : Int} (h : n < 2 * i) : off d n i = d - near (d * (n - i)) n := if_pos h
theorem off_lo {d n i : Int} (h : ¬ n < 2 * i) : off d n i = near (d * i) n := if_neg h
theorem off_bd {d n i : Int} (d0 : 0 ≤ d) (i0 : 0 ≤ i) (i1 : i ≤ n) (n0 : 0 < n) : 0 ≤ off d n i ∧ off d n i ≤ d := by
  have h1 := near_frac d0 i0 i1 n0
  have h2 := near_frac (i := n - i) d0 (by omega) (by omega) n0
  unfold off
  split <;> omega
def lin (f l n i : Int) : Int := near (f * (n - i) + l * i) n
theorem sum_bd {f l i n : Int} (f0 : 0 ≤ f) (f1 : f ≤ 180000) (l0 : 0 ≤ l) (l1 : l ≤ 180000) (i0 : 0 ≤ i) (i1 : i ≤ n) (n1 : n ≤ 64) :
    (0 ≤ f * (n - i) ∧ f * (n - i) ≤ 18112000) ∧ (0 ≤ l * i ∧ l * i ≤ 18112000) := ⟨mul_bd f0 (by omega) (by omega) (by omega), mul_bd l0 (by omega) i0 (by omega)⟩
theorem lin_bd {f l i n : Int} (f0 : 0 ≤ f) (f1 : f ≤ 180000) (l0 : 0 ≤ l) (l1 : l ≤ 180000) (i0 : 0 ≤ i) (i1 : i ≤ n) (n0 : 0 < n) (n1 : n ≤ 64) : -36224000 ≤ lin f l n i ∧ lin f l n i ≤ 36224000 := by
  obtain ⟨h1, h2⟩ := sum_bd f0 f1 l0 l1 i0 i1 n1
  exact near_le _ n (by omega) 36224000 (by omega) (by omega)

set_option maxHeartbeats 1000000 in
theorem spec_offset (g n cap : Nat) (d f l i : Int) (a : Option Addr) (w : World) (hp : PIn w g d f l (.slice a (n + 1) cap)) (d0 : 1 ≤ d) (d1 : d ≤ 283000) (i0 : 0 ≤ i) (i1 : i ≤ n) (n0 : 1 ≤ n) (n1 : n ≤ 64) :
    Calls Try.prog 78 #[.pointer (some ⟨g, 0, none⟩), .int .i64 i] w fun e w' => e = .returned (.int .i64 (off d n i)) ∧ On w w' := by
  obtain ⟨k0, k1, k2, k3⟩ := hp
  have hg := World.block_lt_of_cell? w _ k0
  by_cases h : (n : Int) < 2 * i
  · have en := Lib.hid (off_hi (d := d) h)
    obtain ⟨p0, p1⟩ := mul_bd (a := d) (b := (n : Int) - i) (by omega) d1 (by omega) (by omega)
    obtain ⟨q0, q1⟩ := near_frac (d := d) (i := (n : Int) - i) (n := n) (by omega) (by omega) (by omega) (by omega)
    have HD := Lib.hid (fun w => Arith.l01Div (d * ((n : Int) - i)) n w (by omega) (by omega) (by omega) (by omega) (by omega))
    have f0 : IntKind.i64.wrap ((n : Int) - i) = (n : Int) - i := IntWalk.i64_in _ (by omega)
    have f1 : IntKind.i64.wrap (d * ((n : Int) - i)) = d * ((n : Int) - i) := IntWalk.i64_in _ (by omega)
    have f2 : IntKind.i64.wrap (d - near (d * ((n : Int) - i)) n) = d - near (d * ((n : Int) - i)) n := IntWalk.i64_in _ (by omega)
    go_enter Try.func78, Try.ntmps78
    go_wp2_with fail
    refine wp_region_onh (by kernel_rfl) (by kernel_rfl) ?_
    repeat (refine rest_step (fun K hK => ?_); go_simp; first | (refine hK _ ?_; clear hK K) | (apply Exists.intro; refine ⟨fun v1 hv1 => ?_, hK _ ?_⟩; (first | with_reducible exact rfl | with_reducible exact ⟨rfl, rfl⟩ | with_reducible exact Calls.on_same hv1 (HD.out _) | (obtain ⟨hc, hf⟩ := bcell hv1; go_simp; first | with_reducible exact rfl | with_reducible exact ⟨rfl, rfl⟩)); clear hK K))
    refine rest_nil ?_
    intro w1 h1
    go_wp2_with fail
    go_ret
    exact ⟨ret_int en.out.symm, h1⟩
  · have en := Lib.hid (off_lo (d := d) h)
    obtain ⟨p0, p1⟩ := mul_bd (a := d) (b := i) (by omega) d1 (by omega) (by omega)
    have HD := Lib.hid (fun w => Arith.l01Div (d * i) n w (by omega) (by omega) (by omega) (by omega) (by omega))
    have f1 : IntKind.i64.wrap (d * i) = d * i := IntWalk.i64_in _ (by omega)
    go_enter Try.func78, Try.ntmps78
    go_wp2_with fail
    refine (HD.out _).mono ?_
    rintro e w' ⟨rfl, rfl⟩
    go_wp2_with fail
    go_ret
    exact ⟨ret_int en.out.symm, On.refl _⟩
set_option maxHeartbeats 1000000 in
theorem spec_line (g n cap : Nat) (d f l i : Int) (a : Option Addr) (w : World) (hp : PIn w g d f l (.slice a (n + 1) cap)) (f0 : 0 ≤ f) (f1 : f ≤ 180000) (l0 : 0 ≤ l) (l1 : l ≤ 180000) (i0 : 0 ≤ i) (i1 : i ≤ n) (n0 : 1 ≤ n) (n1 : n ≤ 64) :
    Calls Try.prog 104 #[.pointer (some ⟨g, 0, none⟩), .int .i64 i] w fun e w' => e = .returned (.int .i64 (lin f l n i)) ∧ On w w' := by
  obtain ⟨k0, k1, k2, k3⟩ := hp
  have hg := World.block_lt_of_cell? w _ k0
  obtain ⟨⟨p0, p1⟩, p2, p3⟩ := sum_bd f0 f1 l0 l1 i0 i1 (by omega : (n : Int) ≤ 64)
  have HD := Lib.hid (fun w => Arith.l01Div (f * ((n : Int) - i) + l * i) n w (by omega) (by omega) (by omega) (by omega) (by omega))
  have e0 : IntKind.i64.wrap ((n : Int) - i) = (n : Int) - i := IntWalk.i64_in _ (by omega)
  have e1 : IntKind.i64.wrap (f * ((n : Int) - i)) = f * ((n : Int) - i) := IntWalk.i64_in _ (by omega)
  have e2 : IntKind.i64.wrap (l * i) = l * i := IntWalk.i64_in _ (by omega)
  have e3 : IntKind.i64.wrap (f * ((n : Int) - i) + l * i) = f * ((n : Int) - i) + l * i := IntWalk.i64_in _ (by omega)
  go_enter Try.func104, Try.ntmps104
  go_wp2_with fail
  refine wp_region_onh (by kernel_rfl) (by kernel_rfl) ?_
  repeat (refine rest_step (fun K hK => ?_); go_simp; first | (refine hK _ ?_; clear hK K) | (apply Exists.intro; refine ⟨fun v1 hv1 => ?_, hK _ ?_⟩; (first | with_reducible exact rfl | with_reducible exact ⟨rfl, rfl⟩ | with_reducible exact Calls.on_same hv1 (HD.out _) | (obtain ⟨hc, hf⟩ := bcell hv1; go_simp; first | with_reducible exact rfl | with_reducible exact ⟨rfl, rfl⟩)); clear hK K))
  refine rest_nil ?_
  intro w1 h1
  go_wp2_with fail
  go_ret
  exact ⟨rfl, h1⟩
set_option maxHeartbeats 1000000 in
theorem impl_offset (n cap : Nat) (d f l i : Int) (a : Option Addr) (w : World) (d0 : 1 ≤ d) (d1 : d ≤ 283000) (i0 : 0 ≤ i) (i1 : i ≤ n) (n0 : 1 ≤ n) (n1 : n ≤ 64) :
    Calls Try.prog 61 #[.agg #[.int .i64 d, .int .i64 f, .int .i64 l, .slice a (n + 1) cap], .int .i64 i] w fun e w' => e = .returned (.int .i64 (off d n i)) ∧ On w w' := by
  have hst := fun w => steps d f l a (n + 1) cap w (by omega)
  rw [show (((n + 1 : Nat) : Int) - 1) = (n : Int) from by omega] at hst
  have HST := Lib.hid hst
  clear hst
  by_cases h : (n : Int) < 2 * i
  · have en := Lib.hid (off_hi (d := d) h)
    have h' : ¬ 2 * i ≤ (n : Int) := by omega
    obtain ⟨p0, p1⟩ := mul_bd (a := d) (b := (n : Int) - i) (by omega) d1 (by omega) (by omega)
    obtain ⟨q0, q1⟩ := near_frac (d := d) (i := (n : Int) - i) (n := n) (by omega) (by omega) (by omega) (by omega)
    have HD := Lib.hid (fun w => Arith.nearest (d * ((n : Int) - i)) n w (by omega) (by omega) (by omega) (by omega) (by omega))
    have f0 : IntKind.i64.wrap ((n : Int) - i) = (n : Int) - i := IntWalk.i64_in _ (by omega)
    have f1 : IntKind.i64.wrap (d * ((n : Int) - i)) = d * ((n : Int) - i) := IntWalk.i64_in _ (by omega)
    have f2 : IntKind.i64.wrap (d - near (d * ((n : Int) - i)) n) = d - near (d * ((n : Int) - i)) n := IntWalk.i64_in _ (by omega)
    go_enter Try.func61, Try.ntmps61
    go_wp2_with fail
    refine (HST.out _).mono ?_
    rintro e w1 ⟨rfl, h1⟩
    obtain ⟨hc, hf⟩ := bcell h1
    have z1 : w.heap.size < w1.heap.size := by have := h1.size; simp at this; omega
    go_wp2_with fail
    refine wp_region_onh (by kernel_rfl) (by kernel_rfl) ?_
    repeat (refine rest_step (fun K hK => ?_); go_simp; first | (refine hK _ ?_; clear hK K) | (apply Exists.intro; refine ⟨fun v1 hv1 => ?_, hK _ ?_⟩; (first | with_reducible exact rfl | with_reducible exact ⟨rfl, rfl⟩ | with_reducible exact Calls.on_drew hv1 (HD.out _) | (obtain ⟨hc, hf⟩ := bcell hv1; go_simp; first | with_reducible exact rfl | with_reducible exact ⟨rfl, rfl⟩)); clear hK K))
    refine rest_nil ?_
    intro w2 h2
    go_wp2_with fail
    go_ret
    exact ⟨ret_int en.out.symm, by repeat (first | exact On.refl _ | apply On.alloc | refine On.trans ?_ h2 | refine On.trans ?_ h1)⟩
  · have en := Lib.hid (off_lo (d := d) h)
    have h' : 2 * i ≤ (n : Int) := by omega
    obtain ⟨p0, p1⟩ := mul_bd (a := d) (b := i) (by omega) d1 (by omega) (by omega)
    have HD := Lib.hid (fun w => Arith.nearest (d * i) n w (by omega) (by omega) (by omega) (by omega) (by omega))
    have f1 : IntKind.i64.wrap (d * i) = d * i := IntWalk.i64_in _ (by omega)
    go_enter Try.func61, Try.ntmps61
    go_wp2_with fail
    refine (HST.out _).mono ?_
    rintro e w1 ⟨rfl, h1⟩
    obtain ⟨hc, hf⟩ := bcell h1
    have z1 : w.heap.size < w1.heap.size := by have := h1.size; simp at this; omega
    go_wp2_with fail
    refine (HD.out _).mono ?_
    rintro e w' ⟨rfl, k, rfl⟩
    go_wp2_with fail
    go_ret
    exact ⟨ret_int en.out.symm, by repeat (first | exact On.refl _ | apply On.drewN | apply On.drew | apply On.alloc | refine On.trans ?_ h1)⟩
set_option maxHeartbeats 1000000 in
theorem impl_line (n cap : Nat) (d f l i : Int) (a : Option Addr) (w : World) (f0 : 0 ≤ f) (f1 : f ≤ 180000) (l0 : 0 ≤ l) (l1 : l ≤ 180000) (i0 : 0 ≤ i) (i1 : i ≤ n) (n0 : 1 ≤ n) (n1 : n ≤ 64) :
    Calls Try.prog 106 #[.agg #[.int .i64 d, .int .i64 f, .int .i64 l, .slice a (n + 1) cap], .int .i64 i] w fun e w' => e = .returned (.int .i64 (lin f l n i)) ∧ On w w' := by
  have hst := fun w => steps d f l a (n + 1) cap w (by omega)
  rw [show (((n + 1 : Nat) : Int) - 1) = (n : Int) from by omega] at hst
  have HST := Lib.hid hst
  clear hst
  obtain ⟨⟨p0, p1⟩, p2, p3⟩ := sum_bd f0 f1 l0 l1 i0 i1 (by omega : (n : Int) ≤ 64)
  have HD := Lib.hid (fun w => Arith.nearest (f * ((n : Int) - i) + l * i) n w (by omega) (by omega) (by omega) (by omega) (by omega))
  have e0 : IntKind.i64.wrap ((n : Int) - i) = (n : Int) - i := IntWalk.i64_in _ (by omega)
  have e1 : IntKind.i64.wrap (f * ((n : Int) - i)) = f * ((n : Int) - i) := IntWalk.i64_in _ (by omega)
  have e2 : IntKind.i64.wrap (l * i) = l * i := IntWalk.i64_in _ (by omega)
  have e3 : IntKind.i64.wrap (f * ((n : Int) - i) + l * i) = f * ((n : Int) - i) + l * i := IntWalk.i64_in _ (by omega)
  go_enter Try.func106, Try.ntmps106
  go_wp2_with fail
  refine (HST.out _).mono ?_
  rintro e w1 ⟨rfl, h1⟩
  obtain ⟨hc, hf⟩ := bcell h1
  have z1 : w.heap.size < w1.heap.size := by have := h1.size; simp at this; omega
  go_wp2_with fail
  refine (HD.out _).mono ?_
  rintro e w' ⟨rfl, k, rfl⟩
  go_wp2_with fail
  go_ret
  exact ⟨rfl, by repeat (first | exact On.refl _ | apply On.drewN | apply On.drew | apply On.alloc | refine On.trans ?_ h1)⟩

/-- The code of a profile and a point of it. -/
def askC (d f l : Int) (zs : List Int) (i : Int) : Int := if okP d f l zs = false then 1 else if inB i 0 ((zs.length : Int) - 1) = false then 2 else 0
theorem ask_no {d f l i : Int} {zs : List Int} (h : okP d f l zs = false) : askC d f l zs i = 1 := if_pos h
theorem ask_far {d f l i : Int} {zs : List Int} (h : okP d f l zs = true) (k : inB i 0 ((zs.length : Int) - 1) = false) : askC d f l zs i = 2 := by unfold askC; rw [h, if_neg (by simp), if_pos k]
theorem ask_ok {d f l i : Int} {zs : List Int} (h : okP d f l zs = true) (k : inB i 0 ((zs.length : Int) - 1) = true) : askC d f l zs i = 0 := by unfold askC; rw [h, if_neg (by simp), k, if_neg (by simp)]
end Go.Proofs.Ytmmhekakihimfaa.Prof
