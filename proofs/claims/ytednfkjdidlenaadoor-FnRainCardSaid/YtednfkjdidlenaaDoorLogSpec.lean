
/-
  What the model's logarithm is. No condition but that the number fits its kind.
-/
import Derived.Test.YtednfkjdidlenaaDoorProg
import Derived.Test.YtednfkjdidlenaaDoorLogPlain
import Derived.Test.YtednfkjdidlenaaDoorOn
import Derived.Lib.Hide
import Derived.IntWalk
namespace Go.Proofs.YtednfkjdidlenaaDoor.Log
open Go.RowKit
open Plain

theorem ret_ii {a b c d : Int} (h1 : a = b) (h2 : c = d) : Ending.returned (.tuple #[.int .i64 a, .int .i64 c]) = .returned (.tuple #[.int .i64 b, .int .i64 d]) := by rw [h1, h2]
end Go.Proofs.YtednfkjdidlenaaDoor.Log
