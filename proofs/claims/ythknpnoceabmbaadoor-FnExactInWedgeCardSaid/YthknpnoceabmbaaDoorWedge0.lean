
/-
  What Bearing and InWedge are, in the model and in the program. Condition: the program's variable of sines holds what its text lays.
-/
import Derived.Test.YthknpnoceabmbaaDoorBearSpec
namespace Go.Proofs.YthknpnoceabmbaaDoor.Bear
open Go.RowKit
open Plain
open Sine (TabG TabAt)
open Point

theorem spec_bearing (x y u v : Int) (w : World) :
    Calls Tryd.prog 16 #[.agg #[.int .i64 x, .int .i64 y], .agg #[.int .i64 u, .int .i64 v]] w fun r w' => r = .returned (.int .i64 (bear x y u v)) ∧ On w w' := by
  cases k1 : okB x y with
  | false =>
    have H := Lib.hid (bear_1 (u := u) (v := v) k1)
    go_enter Tryd.func16, Tryd.ntmps16
    go_wp2_with fail
    refine (spec_ok x y _).mono ?_
    rintro r w1 ⟨rfl, h1⟩
    obtain ⟨hc1, hf1⟩ := bcell h1
    obtain ⟨z1, z1'⟩ : w.heap.size < w1.heap.size ∧ w.heap.size + 1 < w1.heap.size := by have := h1.size; (try simp at this); omega
    go_wp2_with fail
    go_ret
    exact ⟨ret_int H.out.symm, by repeat (first | exact On.refl _ | apply On.alloc | apply On.drewN | refine On.trans ?_ (by assumption))⟩
  | true =>
    cases k2 : okB u v with
    | false =>
      have H := Lib.hid (bear_2 (x := x) (y := y) k2)
      go_enter Tryd.func16, Tryd.ntmps16
      go_wp2_with fail
      refine (spec_ok x y _).mono ?_
      rintro r w1 ⟨rfl, h1⟩
      obtain ⟨hc1, hf1⟩ := bcell h1
      obtain ⟨z1, z1'⟩ : w.heap.size < w1.heap.size ∧ w.heap.size + 1 < w1.heap.size := by have := h1.size; (try simp at this); omega
      go_wp2_with fail
      refine (spec_ok u v _).mono ?_
      rintro r w2 ⟨rfl, h2⟩
      obtain ⟨hc2, hf2⟩ := bcell h2
      obtain ⟨z2, z2'⟩ : w.heap.size < w2.heap.size ∧ w.heap.size + 1 < w2.heap.size := by have := h2.size; (try simp at this); omega
      go_wp2_with fail
      go_ret
      exact ⟨ret_int H.out.symm, by repeat (first | exact On.refl _ | apply On.alloc | apply On.drewN | refine On.trans ?_ (by assumption))⟩
    | true =>
      have H := Lib.hid (bear_3 k1 k2)
      have HL := Lib.hid (fun w => spec_l03Bearing x y u v w k1 k2)
      go_enter Tryd.func16, Tryd.ntmps16
      go_wp2_with fail
      refine (spec_ok x y _).mono ?_
      rintro r w1 ⟨rfl, h1⟩
      obtain ⟨hc1, hf1⟩ := bcell h1
      obtain ⟨z1, z1'⟩ : w.heap.size < w1.heap.size ∧ w.heap.size + 1 < w1.heap.size := by have := h1.size; (try simp at this); omega
      go_wp2_with fail
      refine (spec_ok u v _).mono ?_
      rintro r w2 ⟨rfl, h2⟩
      obtain ⟨hc2, hf2⟩ := bcell h2
      obtain ⟨z2, z2'⟩ : w.heap.size < w2.heap.size ∧ w.heap.size + 1 < w2.heap.size := by have := h2.size; (try simp at this); omega
      go_wp2_with fail
      refine (HL.out _).mono ?_
      rintro r w3 ⟨rfl, h3⟩
      go_wp2_with fail
      go_ret
      exact ⟨ret_int H.out.symm, by repeat (first | exact On.refl _ | apply On.alloc | apply On.drewN | refine On.trans ?_ (by assumption))⟩
theorem impl_bearing (x y u v : Int) (w : World) (ht : TabG w) :
    Calls Tryd.prog 17 #[.agg #[.int .i64 x, .int .i64 y], .agg #[.int .i64 u, .int .i64 v]] w fun r w' => r = .returned (.int .i64 (bear x y u v)) ∧ On w w' := by
  cases k1 : okB x y with
  | false =>
    have H := Lib.hid (bear_1 (u := u) (v := v) k1)
    go_enter Tryd.func17, Tryd.ntmps17
    go_wp2_with fail
    refine (impl_ok x y _).mono ?_
    rintro r w1 ⟨rfl, h1⟩
    obtain ⟨hc1, hf1⟩ := bcell h1
    obtain ⟨z1, z1'⟩ : w.heap.size < w1.heap.size ∧ w.heap.size + 1 < w1.heap.size := by have := h1.size; (try simp at this); omega
    go_wp2_with fail
    go_ret
    exact ⟨ret_int H.out.symm, by repeat (first | exact On.refl _ | apply On.alloc | apply On.drewN | refine On.trans ?_ (by assumption))⟩
  | true =>
    cases k2 : okB u v with
    | false =>
      have H := Lib.hid (bear_2 (x := x) (y := y) k2)
      go_enter Tryd.func17, Tryd.ntmps17
      go_wp2_with fail
      refine (impl_ok x y _).mono ?_
      rintro r w1 ⟨rfl, h1⟩
      obtain ⟨hc1, hf1⟩ := bcell h1
      obtain ⟨z1, z1'⟩ : w.heap.size < w1.heap.size ∧ w.heap.size + 1 < w1.heap.size := by have := h1.size; (try simp at this); omega
      go_wp2_with fail
      refine (impl_ok u v _).mono ?_
      rintro r w2 ⟨rfl, h2⟩
      obtain ⟨hc2, hf2⟩ := bcell h2
      obtain ⟨z2, z2'⟩ : w.heap.size < w2.heap.size ∧ w.heap.size + 1 < w2.heap.size := by have := h2.size; (try simp at this); omega
      go_wp2_with fail
      go_ret
      exact ⟨ret_int H.out.symm, by repeat (first | exact On.refl _ | apply On.alloc | apply On.drewN | refine On.trans ?_ (by assumption))⟩
    | true =>
      have H := Lib.hid (bear_3 k1 k2)
      rw [H.out]
      exact impl_bearing_ok x y u v w k1 k2 ht
theorem impl_bearing_iff {x y u v : Int} (k1 : okB x y = true) (k2 : okB u v = true) : bear x y u v = (bearing (u - x) (v - y) : Nat) := bear_3 k1 k2
/-- What InWedge reports. -/
def wedge (x y a b u v : Int) : Bool := okB x y && (okB u v && (inB b 0 360 && (decide (x = u ∧ y = v) || decide (2 * turn (bearing (u - x) (v - y) : Nat) a ≤ b))))
theorem wedge_1 {x y a b u v : Int} (h : okB x y = false) : wedge x y a b u v = false := by unfold wedge; rw [h]; rfl
theorem wedge_2 {x y a b u v : Int} (h1 : okB x y = true) (h : okB u v = false) : wedge x y a b u v = false := by unfold wedge; rw [h1, h]; rfl
theorem wedge_3 {x y a b u v : Int} (h1 : okB x y = true) (h2 : okB u v = true) (h : inB b 0 360 = false) : wedge x y a b u v = false := by unfold wedge; rw [h1, h2, h]; rfl
theorem wedge_4 {x y a b : Int} (h1 : okB x y = true) (h : inB b 0 360 = true) : wedge x y a b x y = true := by unfold wedge; rw [h1, h]; simp
theorem wedge_5 {x y a b u v : Int} (h1 : okB x y = true) (h2 : okB u v = true) (h : inB b 0 360 = true) (hne : ¬ (x = u ∧ y = v)) : wedge x y a b u v = decide (2 * turn (bearing (u - x) (v - y) : Nat) a ≤ b) := by
  unfold wedge; rw [h1, h2, h, decide_eq_false hne]; simp
end Go.Proofs.YthknpnoceabmbaaDoor.Bear
