
/-
  What a way from a point to another one is. Conditions: each theorem's own, on the size of its numbers.
-/
import Derived.Test.YthknpnoceabmbaaDoorPoint
namespace Go.Proofs.YthknpnoceabmbaaDoor.WayTo0
open Go.RowKit

theorem impl_wayTo (x y u v : Int) (w : World) (h1 : -1000000 ≤ u - x) (h2 : u - x ≤ 1000000) (h3 : -1000000 ≤ v - y) (h4 : v - y ≤ 1000000) :
    Calls Tryd.prog 32 #[.agg #[.int .i64 x, .int .i64 y], .agg #[.int .i64 u, .int .i64 v]] w fun e w' => e = .returned (.agg #[.int .i64 (u - x), .int .i64 (v - y)]) ∧ On w w' := by
  go_enter Tryd.func32, Tryd.ntmps32
  go_wp2
  refine bodyPost_ret (v := .agg #[.int .i64 (u - x), .int .i64 (v - y)]) (by simp [results, Tryd.results32, go_sem]) rfl ⟨rfl, ?_⟩
  repeat (first | exact On.refl _ | apply On.alloc | refine On.setCell ?_ (by (try simp) <;> omega) _)
end Go.Proofs.YthknpnoceabmbaaDoor.WayTo0
