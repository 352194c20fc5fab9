
/-
  What ways between points are, scaled and moved, in the model and in the program. Conditions: each theorem's own, on the size of its numbers.
-/
import Derived.Test.YthknpnoceabmbaaPoint
import Derived.Test.YthknpnoceabmbaaTail
import Derived.IntWalk
namespace Go.Proofs.Ythknpnoceabmbaa.Way
open Go.RowKit
open Plain

theorem impl_wayTo (x y u v : Int) (w : World) (h1 : -1000000 ≤ u - x) (h2 : u - x ≤ 1000000) (h3 : -1000000 ≤ v - y) (h4 : v - y ≤ 1000000) :
    Calls Try.prog 32 #[.agg #[.int .i64 x, .int .i64 y], .agg #[.int .i64 u, .int .i64 v]] w fun e w' => e = .returned (.agg #[.int .i64 (u - x), .int .i64 (v - y)]) ∧ On w w' := by
  go_enter Try.func32, Try.ntmps32
  go_wp2
  refine bodyPost_ret (v := .agg #[.int .i64 (u - x), .int .i64 (v - y)]) (by simp [results, Try.results32, go_sem]) rfl ⟨rfl, ?_⟩
  repeat (first | exact On.refl _ | apply On.alloc | refine On.setCell ?_ (by (try simp) <;> omega) _)
theorem impl_moved (x y u v : Int) (w : World) (h1 : -1000000000000 ≤ x + u) (h2 : x + u ≤ 1000000000000) (h3 : -1000000000000 ≤ y + v) (h4 : y + v ≤ 1000000000000) :
    Calls Try.prog 40 #[.agg #[.int .i64 x, .int .i64 y], .agg #[.int .i64 u, .int .i64 v]] w fun e w' => e = .returned (.agg #[.int .i64 (x + u), .int .i64 (y + v)]) ∧ On w w' := by
  go_enter Try.func40, Try.ntmps40
  go_wp2
  refine bodyPost_ret (v := .agg #[.int .i64 (x + u), .int .i64 (y + v)]) (by simp [results, Try.results40, go_sem]) rfl ⟨rfl, ?_⟩
  repeat (first | exact On.refl _ | apply On.alloc | refine On.setCell ?_ (by (try simp) <;> omega) _)
set_option maxHeartbeats 1000000 in
theorem impl_scaled (u v i n : Int) (w : World) (h1 : -1000000000000 ≤ u * i) (h2 : u * i ≤ 1000000000000) (h3 : -1000000000000 ≤ v * i) (h4 : v * i ≤ 1000000000000) (n1 : -1000000000000 ≤ n) (n2 : n ≤ 1000000000000) (n0 : n ≠ 0) :
    Calls Try.prog 41 #[.agg #[.int .i64 u, .int .i64 v], .int .i64 i, .int .i64 n] w fun e w' => e = .returned (.agg #[.int .i64 (near (u * i) n), .int .i64 (near (v * i) n)]) ∧ On w w' := by
  go_enter Try.func41, Try.ntmps41
  have C1 := Lib.hid (fun w => Arith.nearest (u * i) n w (by omega) (by omega) (by omega) (by omega) n0)
  have C2 := Lib.hid (fun w => Arith.nearest (v * i) n w (by omega) (by omega) (by omega) (by omega) n0)
  have e1 : IntKind.i64.wrap (u * i) = u * i := IntWalk.i64_in _ (by omega)
  have e2 : IntKind.i64.wrap (v * i) = v * i := IntWalk.i64_in _ (by omega)
  go_wp2_with fail
  refine wp_region_on_tail 13 (by kernel_rfl) (by kernel_rfl) ?_
  simp only [List.take_succ_cons, List.take_zero, List.drop_succ_cons, List.drop_zero]
  repeat (refine wpQuiet_step (fun K hK => ?_); go_simp; first | (refine hK _ ?_; clear hK K) | (apply Exists.intro; refine ⟨fun v1 hv1 => ?_, hK _ ?_⟩; (first | with_reducible exact rfl | with_reducible exact ⟨rfl, rfl⟩ | with_reducible exact Calls.on_drew hv1 (C1.out _) | with_reducible exact Calls.on_drew hv1 (C2.out _) | (obtain ⟨hc, hf⟩ := bcell hv1; go_simp; first | exact rfl | exact ⟨rfl, rfl⟩)); clear hK K))
  refine wpQuiet_nil ?_
  intro w1 h1
  obtain ⟨hc1, hf1⟩ := bcell h1
  go_wp2_with fail
  refine bodyPost_ret (v := .agg #[.int .i64 (near (u * i) n), .int .i64 (near (v * i) n)]) (by simp [results, Try.results41, go_sem, hc1]) rfl ⟨rfl, ?_⟩
  repeat (first | exact On.refl _ | apply On.alloc | apply On.drewN | refine On.trans ?_ h1 | refine On.setCell ?_ (by (try simp) <;> omega) _)
theorem prod_in {a i : Int} (h1 : -200000 ≤ a) (h2 : a ≤ 200000) (i0 : 0 ≤ i) (i1 : i ≤ 1000) : -200000000 ≤ a * i ∧ a * i ≤ 200000000 := by
  have p1 : -200000 * i ≤ a * i := Int.mul_le_mul_of_nonneg_right h1 i0
  have p2 : a * i ≤ 200000 * i := Int.mul_le_mul_of_nonneg_right h2 i0
  omega
/-- A point between two points. -/
def alongX (x u i n : Int) : Int := x + near ((u - x) * i) n
set_option maxHeartbeats 1000000 in
theorem spec_l03Along (x y u v i n : Int) (w : World) (hx : 0 ≤ x ∧ x ≤ 200000 ∧ 0 ≤ y ∧ y ≤ 200000) (hu : 0 ≤ u ∧ u ≤ 200000 ∧ 0 ≤ v ∧ v ≤ 200000) (i0 : 0 ≤ i) (i1 : i ≤ 1000) (n0 : 1 ≤ n) (n1 : n ≤ 1000) :
    Calls Try.prog 39 #[.agg #[.int .i64 x, .int .i64 y], .agg #[.int .i64 u, .int .i64 v], .int .i64 i, .int .i64 n] w fun e w' => e = .returned (.agg #[.int .i64 (alongX x u i n), .int .i64 (alongX y v i n)]) ∧ On w w' := by
  obtain ⟨x0, x1, y0, y1⟩ := hx
  obtain ⟨u0, u1, v0, v1⟩ := hu
  obtain ⟨p1, p2⟩ := prod_in (a := u - x) (by omega) (by omega) i0 i1
  obtain ⟨q1, q2⟩ := prod_in (a := v - y) (by omega) (by omega) i0 i1
  have s1 := near_le ((u - x) * i) n (by omega) 200000000 (by omega) (by omega)
  have s2 := near_le ((v - y) * i) n (by omega) 200000000 (by omega) (by omega)
  obtain ⟨s1, s3⟩ := s1
  obtain ⟨s2, s4⟩ := s2
  go_enter Try.func39, Try.ntmps39
  have C1 := Lib.hid (fun w => Arith.l01Div ((u - x) * i) n w (by omega) (by omega) (by omega) (by omega) (by omega))
  have C2 := Lib.hid (fun w => Arith.l01Div ((v - y) * i) n w (by omega) (by omega) (by omega) (by omega) (by omega))
  have e1 : IntKind.i64.wrap (u - x) = u - x := IntWalk.i64_in _ (by omega)
  have e2 : IntKind.i64.wrap (v - y) = v - y := IntWalk.i64_in _ (by omega)
  have e3 : IntKind.i64.wrap ((u - x) * i) = (u - x) * i := IntWalk.i64_in _ (by omega)
  have e4 : IntKind.i64.wrap ((v - y) * i) = (v - y) * i := IntWalk.i64_in _ (by omega)
  have e5 : IntKind.i64.wrap (x + near ((u - x) * i) n) = x + near ((u - x) * i) n := IntWalk.i64_in _ (by omega)
  have e6 : IntKind.i64.wrap (y + near ((v - y) * i) n) = y + near ((v - y) * i) n := IntWalk.i64_in _ (by omega)
  go_wp2_with fail
  refine wp_region_on_tail 25 (by kernel_rfl) (by kernel_rfl) ?_
  simp only [List.take_succ_cons, List.take_zero, List.drop_succ_cons, List.drop_zero]
  repeat (refine wpQuiet_step (fun K hK => ?_); go_simp; first | (refine hK _ ?_; clear hK K) | (apply Exists.intro; refine ⟨fun v1 hv1 => ?_, hK _ ?_⟩; (first | with_reducible exact rfl | with_reducible exact ⟨rfl, rfl⟩ | with_reducible exact Calls.on_same hv1 (C1.out _) | with_reducible exact Calls.on_same hv1 (C2.out _) | (obtain ⟨hc, hf⟩ := bcell hv1; go_simp; first | exact rfl | exact ⟨rfl, rfl⟩)); clear hK K))
  refine wpQuiet_nil ?_
  intro w1 h1
  obtain ⟨hc1, hf1⟩ := bcell h1
  go_wp2_with fail
  refine bodyPost_ret (v := .agg #[.int .i64 (alongX x u i n), .int .i64 (alongX y v i n)]) (by simp [results, Try.results39, go_sem, alongX, hc1]) rfl ⟨rfl, ?_⟩
  repeat (first | exact On.refl _ | apply On.alloc | apply On.drewN | refine On.trans ?_ h1 | refine On.setCell ?_ (by (try simp) <;> omega) _)
end Go.Proofs.Ythknpnoceabmbaa.Way
