
/-
  What a way from a point to another one is, and its length. Conditions: each theorem's own, on the size of its numbers.
-/
import Derived.Test.YtknggnchldcghaaPoint
import Derived.Test.YtknggnchldcghaaRoot
namespace Go.Proofs.Ytknggnchldcghaa.WayTo
open Go.RowKit
open Plain
open Point

theorem impl_wayTo (x y u v : Int) (w : World) (h1 : -1000000 ≤ u - x) (h2 : u - x ≤ 1000000) (h3 : -1000000 ≤ v - y) (h4 : v - y ≤ 1000000) :
    Calls Try.prog 112 #[.agg #[.int .i64 x, .int .i64 y], .agg #[.int .i64 u, .int .i64 v]] w fun e w' => e = .returned (.agg #[.int .i64 (u - x), .int .i64 (v - y)]) ∧ On w w' := by
  go_enter Try.func112, Try.ntmps112
  go_wp2
  refine bodyPost_ret (v := .agg #[.int .i64 (u - x), .int .i64 (v - y)]) (by simp [results, Try.results112, go_sem]) rfl ⟨rfl, ?_⟩
  repeat (first | exact On.refl _ | apply On.alloc | refine On.setCell ?_ (by (try simp) <;> omega) _)
theorem sq_in {a : Int} (h1 : -1000000 ≤ a) (h2 : a ≤ 1000000) : 0 ≤ a * a ∧ a * a ≤ 1000000000000 := by
  rcases Int.le_total 0 a with h | h
  · exact ⟨Int.mul_nonneg h h, by have := sq_mono h h2; omega⟩
  · have e : a * a = -a * -a := (Int.neg_mul_neg a a).symm
    rw [e]
    exact ⟨Int.mul_nonneg (by omega) (by omega), by have := sq_mono (show 0 ≤ -a by omega) (show -a ≤ 1000000 by omega); omega⟩
theorem impl_length (a b : Int) (w : World) (a0 : -1000000 ≤ a) (a1 : a ≤ 1000000) (b0 : -1000000 ≤ b) (b1 : b ≤ 1000000) :
    Calls Try.prog 120 #[.agg #[.int .i64 a, .int .i64 b]] w fun e w' => e = .returned (.int .i64 (rootOf (a * a + b * b))) ∧ On w w' := by
  obtain ⟨p0, p1⟩ := sq_in a0 a1
  obtain ⟨q0, q1⟩ := sq_in b0 b1
  go_enter Try.func120, Try.ntmps120
  go_wp2_with fail
  refine (Root.impl_root (a * a + b * b) _ (by omega)).mono ?_
  rintro e w1 ⟨rfl, rfl⟩
  go_wp2_with fail
  go_ret
  exact ⟨rfl, by repeat (first | exact On.refl _ | apply On.alloc)⟩
def dist (x y u v : Int) : Int := if okB x y = true ∧ okB u v = true then rootOf ((u - x) * (u - x) + (v - y) * (v - y)) else 0
theorem dist_yes {x y u v : Int} (h1 : okB x y = true) (h2 : okB u v = true) : dist x y u v = rootOf ((u - x) * (u - x) + (v - y) * (v - y)) := if_pos ⟨h1, h2⟩
theorem dist_no1 {x y u v : Int} (h1 : okB x y = false) : dist x y u v = 0 := if_neg (by rw [h1]; simp)
theorem dist_no2 {x y u v : Int} (h1 : okB u v = false) : dist x y u v = 0 := if_neg (by rw [h1]; simp)
theorem spec_apart (x y u v : Int) (w : World) (h1 : -1000000 ≤ u - x) (h2 : u - x ≤ 1000000) (h3 : -1000000 ≤ v - y) (h4 : v - y ≤ 1000000) :
    Calls Try.prog 101 #[.agg #[.int .i64 x, .int .i64 y], .agg #[.int .i64 u, .int .i64 v]] w fun e w' => e = .returned (.int .i64 (rootOf ((u - x) * (u - x) + (v - y) * (v - y)))) ∧ On w w' := by
  obtain ⟨p0, p1⟩ := sq_in h1 h2
  obtain ⟨q0, q1⟩ := sq_in h3 h4
  go_enter Try.func101, Try.ntmps101
  go_wp2_with fail
  refine (Root.spec_root ((u - x) * (u - x) + (v - y) * (v - y)) _ (by omega)).mono ?_
  rintro e w1 ⟨rfl, rfl⟩
  go_wp2_with fail
  go_ret
  exact ⟨rfl, by repeat (first | exact On.refl _ | apply On.alloc)⟩
theorem impl_distance (x y u v : Int) (w : World) :
    Calls Try.prog 102 #[.agg #[.int .i64 x, .int .i64 y], .agg #[.int .i64 u, .int .i64 v]] w fun e w' => e = .returned (.int .i64 (dist x y u v)) ∧ On w w' := by
  cases k1 : okB x y with
  | false =>
    have H := Lib.hid (dist_no1 (u := u) (v := v) k1)
    go_enter Try.func102, Try.ntmps102
    go_wp2_with fail
    refine (impl_ok x y _).mono ?_
    rintro e w1 ⟨rfl, h1⟩
    go_wp2_with fail
    go_ret
    exact ⟨ret_int H.out.symm, by repeat (first | exact On.refl _ | apply On.alloc | refine On.trans ?_ h1)⟩
  | true =>
    cases k2 : okB u v with
    | false =>
      have H := Lib.hid (dist_no2 (x := x) (y := y) k2)
      go_enter Try.func102, Try.ntmps102
      go_wp2_with fail
      refine (impl_ok x y _).mono ?_
      rintro e w1 ⟨rfl, h1⟩
      obtain ⟨hc1, hf1⟩ := bcell h1
      obtain ⟨z1, z1'⟩ : w.heap.size < w1.heap.size ∧ w.heap.size + 1 < w1.heap.size := by have := h1.size; simp at this; omega
      go_wp2_with fail
      refine (impl_ok u v _).mono ?_
      rintro e w2 ⟨rfl, h2⟩
      go_wp2_with fail
      go_ret
      exact ⟨ret_int H.out.symm, by repeat (first | exact On.refl _ | apply On.alloc | refine On.trans ?_ h2 | refine On.trans ?_ h1)⟩
    | true =>
      have H := Lib.hid (dist_yes k1 k2)
      obtain ⟨x0, x1, y0, y1⟩ := of_okB k1
      obtain ⟨u0, u1, v0, v1⟩ := of_okB k2
      have HA := Lib.hid (fun w => impl_wayTo x y u v w (by omega) (by omega) (by omega) (by omega))
      have HL := Lib.hid (fun w => impl_length (u - x) (v - y) w (by omega) (by omega) (by omega) (by omega))
      go_enter Try.func102, Try.ntmps102
      go_wp2_with fail
      refine (impl_ok x y _).mono ?_
      rintro e w1 ⟨rfl, h1⟩
      obtain ⟨hc1, hf1⟩ := bcell h1
      obtain ⟨z1, z1'⟩ : w.heap.size < w1.heap.size ∧ w.heap.size + 1 < w1.heap.size := by have := h1.size; simp at this; omega
      go_wp2_with fail
      refine (impl_ok u v _).mono ?_
      rintro e w2 ⟨rfl, h2⟩
      obtain ⟨hc2, hf2⟩ := bcell h2
      obtain ⟨z2, z2'⟩ : w.heap.size < w2.heap.size ∧ w.heap.size + 1 < w2.heap.size := by have := h2.size; (try simp at this); omega
      go_wp2_with fail
      refine (HA.out _).mono ?_
      rintro e w3 ⟨rfl, h3⟩
      go_wp2_with fail
      refine (HL.out _).mono ?_
      rintro e w4 ⟨rfl, h4⟩
      go_wp2_with fail
      go_ret
      exact ⟨ret_int H.out.symm, by repeat (first | exact On.refl _ | apply On.alloc | refine On.trans ?_ h4 | refine On.trans ?_ h3 | refine On.trans ?_ h2 | refine On.trans ?_ h1)⟩
end Go.Proofs.Ytknggnchldcghaa.WayTo
