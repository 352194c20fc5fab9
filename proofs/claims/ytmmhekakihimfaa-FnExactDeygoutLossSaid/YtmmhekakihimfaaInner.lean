
/-
  What the iterator over the inner points of a profile is made of. No condition.
-/
import Derived.Test.YtmmhekakihimfaaIter
namespace Go.Proofs.Ytmmhekakihimfaa.Iter
open Go.RowKit
open Prof (PIn)
theorem inner (d f l : Int) (a : Option Addr) (m cap K : Nat) (bound : Array Value) (w : World) :
    Calls Try.prog 54 #[.agg #[.int .i64 d, .int .i64 f, .int .i64 l, .slice a m cap], .func (Fn.func K) bound #[]] w fun e w' =>
      e = .returned (.func (Fn.func 85) #[] #[.pointer (some ⟨w.heap.size, 0, none⟩), .pointer (some ⟨w.heap.size + 1, 0, none⟩)]) ∧ PIn w' w.heap.size d f l (.slice a m cap) ∧ w'.cell? ⟨w.heap.size + 1, 0, none⟩ = some (.func (Fn.func K) bound #[]) ∧ On w w' := by
  go_enter Try.func54, Try.ntmps54
  go_wp2_with fail
  go_ret
  exact ⟨rfl, ⟨by simp [go_sem], by simp [go_sem], by simp [go_sem], by simp [go_sem]⟩, by simp [go_sem], (by repeat (first | with_reducible exact On.refl _ | apply On.alloc))⟩
end Go.Proofs.Ytmmhekakihimfaa.Iter
