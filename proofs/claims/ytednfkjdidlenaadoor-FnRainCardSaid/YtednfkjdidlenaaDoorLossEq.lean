
/-
  What the laws' comparison of losses returns for equal ones. No condition.
-/
import Derived.Test.YtednfkjdidlenaaDoorLossesI
namespace Go.Proofs.YtednfkjdidlenaaDoor.Losses
open Go.RowKit
open Plain

theorem res_parts (f d r : Int) (cs hs : List Int) : ∃ F G R K T C : Int, resL f d r cs hs = .tuple #[.agg #[.int .i64 F, .int .i64 G, .int .i64 R, .int .i64 K, .int .i64 T], .int .i64 C] := ⟨_, _, _, _, _, _, rfl⟩
end Go.Proofs.YtednfkjdidlenaaDoor.Losses
