
/-
  What ways between points are, scaled and moved, in the model and in the program. Conditions: each theorem's own, on the size of its numbers.
-/
import Derived.Test.YtadoaenmmemjdaaPoint
import Derived.Test.YtadoaenmmemjdaaTail
import Derived.IntWalk
namespace Go.Proofs.Ytadoaenmmemjdaa.Way
open Go.RowKit
open Plain

theorem impl_wayTo (x y u v : Int) (w : World) (h1 : -1000000 ≤ u - x) (h2 : u - x ≤ 1000000) (h3 : -1000000 ≤ v - y) (h4 : v - y ≤ 1000000) :
    Calls Try.prog 43 #[.agg #[.int .i64 x, .int .i64 y], .agg #[.int .i64 u, .int .i64 v]] w fun e w' => e = .returned (.agg #[.int .i64 (u - x), .int .i64 (v - y)]) ∧ On w w' := by
  go_enter Try.func43, Try.ntmps43
  go_wp2
  refine bodyPost_ret (v := .agg #[.int .i64 (u - x), .int .i64 (v - y)]) (by simp [results, Try.results43, go_sem]) rfl ⟨rfl, ?_⟩
  repeat (first | exact On.refl _ | apply On.alloc | refine On.setCell ?_ (by (try simp) <;> omega) _)
theorem impl_moved (x y u v : Int) (w : World) (h1 : -1000000000000 ≤ x + u) (h2 : x + u ≤ 1000000000000) (h3 : -1000000000000 ≤ y + v) (h4 : y + v ≤ 1000000000000) :
    Calls Try.prog 42 #[.agg #[.int .i64 x, .int .i64 y], .agg #[.int .i64 u, .int .i64 v]] w fun e w' => e = .returned (.agg #[.int .i64 (x + u), .int .i64 (y + v)]) ∧ On w w' := by
  go_enter Try.func42, Try.ntmps42
  go_wp2
  refine bodyPost_ret (v := .agg #[.int .i64 (x + u), .int .i64 (y + v)]) (by simp [results, Try.results42, go_sem]) rfl ⟨rfl, ?_⟩
  repeat (first | exact On.refl _ | apply On.alloc | refine On.setCell ?_ (by (try simp) <;> omega) _)
set_option maxHeartbeats 1000000 in
theorem impl_scaled (u v i n : Int) (w : World) (h1 : -1000000000000 ≤ u * i) (h2 : u * i ≤ 1000000000000) (h3 : -1000000000000 ≤ v * i) (h4 : v * i ≤ 1000000000000) (n1 : -1000000000000 ≤ n) (n2 : n ≤ 1000000000000) (n0 : n ≠ 0) :
    Calls Try.prog 44 #[.agg #[.int .i64 u, .int .i64 v], .int .i64 i, .int .i64 n] w fun e w' => e = .returned (.agg #[.int .i64 (near (u * i) n), .int .i64 (near (v * i) n)]) ∧ On w w' := by
  go_enter Try.func44, Try.ntmps44
  have C1 := Lib.hid (fun w => Arith.nearest (u * i) n w (by omega) (by omega) (by omega) (by omega) n0)
  have C2 := Lib.hid (fun w => Arith.nearest (v * i) n w (by omega) (by omega) (by omega) (by omega) n0)
  have e1 : IntKind.i64.wrap (u * i) = u * i := IntWalk.i64_in _ (by omega)
  have e2 : IntKind.i64.wrap (v * i) = v * i := IntWalk.i64_in _ (by omega)
  go_wp2_with fail
  refine wp_region_on_tail 13 (by kernel_rfl) (by kernel_rfl) ?_
  simp only [List.take_succ_cons, List.take_zero, List.drop_succ_cons, List.drop_zero]
  repeat (refine wpQuiet_step (fun K hK => ?_); go_simp; first | (refine hK _ ?_; clear hK K) | (apply Exists.intro; refine ⟨fun v1 hv1 => ?_, hK _ ?_⟩; (first | with_reducible exact rfl | with_reducible exact ⟨rfl, rfl⟩ | with_reducible exact Calls.on_drew hv1 (C1.out _) | with_reducible exact Calls.on_drew hv1 (C2.out _) | (obtain ⟨hc, hf⟩ := bcell hv1; go_simp; first | exact rfl | exact ⟨rfl, rfl⟩)); clear hK K))
  refine wpQuiet_nil ?_
  intro w1 h1
  obtain ⟨hc1, hf1⟩ := bcell h1
  go_wp2_with fail
  refine bodyPost_ret (v := .agg #[.int .i64 (near (u * i) n), .int .i64 (near (v * i) n)]) (by simp [results, Try.results44, go_sem, hc1]) rfl ⟨rfl, ?_⟩
  repeat (first | exact On.refl _ | apply On.alloc | apply On.drewN | refine On.trans ?_ h1 | refine On.setCell ?_ (by (try simp) <;> omega) _)
theorem prod_in {a i : Int} (h1 : -200000 ≤ a) (h2 : a ≤ 200000) (i0 : 0 ≤ i) (i1 : i ≤ 1000) : -200000000 ≤ a * i ∧ a * i ≤ 200000000 := by
  have p1 : -200000 * i ≤ a * i := Int.mul_le_mul_of_nonneg_right h1 i0
  have p2 : a * i ≤ 200000 * i := Int.mul_le_mul_of_nonneg_right h2 i0
  omega
/-- A point between two points. -/
def alongX (x u i n : Int) : Int := x + near ((u - x) * i) n
end Go.Proofs.Ytadoaenmmemjdaa.Way
