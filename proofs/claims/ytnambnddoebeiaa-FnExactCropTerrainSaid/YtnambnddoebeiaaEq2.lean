
/-
  Equality of two arrays of two numbers. No program in it.
-/
import Derived.Test.YtnambnddoebeiaaProg
import Derived.Stop.BytesEq
import Derived.WalkKit
namespace Go.Proofs.Ytnambnddoebeiaa.Eq2
open Go

theorem run_two {P : Program} (w : World) (d : Nat) (t e : TypeId) (k : IntKind) (ht : P.underlying t = some (.array 2 e)) (he : P.underlying e = some (.int k)) (hsz : ∀ w, (sizeOf e).run P w = .ok 1 w) (a b x y : Int) :
    (Op.equalIn (d + 2) t (.agg #[.int k a, .int k b]) (.agg #[.int k x, .int k y])).run P w = .ok (a == x && b == y) w := by
  rw [Op.equalIn]
  simp only [Sem.run_bind, run_underlying ht, Result.andThen_ok, hsz, Std.Legacy.Range.forIn_eq_forIn_range', Std.Legacy.Range.size, Nat.sub_zero, Nat.add_sub_cancel, Nat.div_one]
  have p0 : ∀ (u v : Int), (part e #[.int k u, .int k v] (0 * 1)).run P w = .ok (.int k u) w := fun u v => by simp [part, isAgg, run_underlying he]
  have p1 : ∀ (u v : Int), (part e #[.int k u, .int k v] (1 * 1)).run P w = .ok (.int k v) w := fun u v => by simp [part, isAgg, run_underlying he]
  have pe : ∀ (u v : Int), (Op.equalIn (d + 1) e (.int k u) (.int k v)).run P w = .ok (u == v) w := fun u v => run_equalIn_int w d e k k u v he
  show _ = _
  rw [show List.range' 0 2 1 = [0, 1] from rfl]
  simp only [List.forIn_cons, List.forIn_nil, Sem.run_bind, p0, pe, Result.andThen_ok]
  cases a == x
  · simp
  · cases hb : (b == y) <;> simp [p1, pe] <;> simpa using hb
theorem two (a b x y : Int) (w : World) : (Op.equalIn 10000 87 (.agg #[.int .i64 a, .int .i64 b]) (.agg #[.int .i64 x, .int .i64 y])).run Try.prog w = .ok (a == x && b == y) w :=
  run_two w 9998 87 3 .i64 (by kernel_rfl) (by kernel_rfl) (fun w => by kernel_rfl) a b x y
end Go.Proofs.Ytnambnddoebeiaa.Eq2
