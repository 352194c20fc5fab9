
/-
  Problems of assignment as arguments of a law: what such a value looks like, and the laws' count of it. Condition: sizes that fit.
-/
import Derived.Test.YtofoffdmhekceaaCon0
namespace Go.Proofs.Ytofoffdmhekceaa.Prb
open Go.RowKit

theorem Is.shape {w : World} {v : Value} {N : T} (h : Is w v N) : ∃ a0 a1 c0 c1, v = .agg #[.slice a0 N.f0.length c0, .slice a1 N.f1.length c1] := by
  obtain ⟨a0, a1, c0, c1, hv, -⟩ := Con.Is.shape h
  exact ⟨a0, a1, c0, c1, hv⟩
/-- The count, from its literal on. -/
theorem count0 (v : Value) (N : T) (w : World) (hn : N.Small maxLen) (h : Is w v N) :
    Calls Try.prog 10 #[v, .int .i64 1048576] w fun e w' => ∃ r : Int, e = .returned (.int .i64 r) ∧ On w w' ∧ (r < 0 ∨ ∃ c : Nat, r = (c : Int) ∧ c ≤ 1048576 ∧ N.Small 1048576) := by
  have := count 1048576 v N w (Nat.le_refl _) hn h
  rw [show (((1048576 : Nat)) : Int) = 1048576 from rfl] at this
  exact this
end Go.Proofs.Ytofoffdmhekceaa.Prb
