
/-
  Slices of numbers copied, with the room that the copies have. Condition: at most 1048576 numbers.
-/
import Derived.Test.YtnambnddoebeiaaDoorInts
namespace Go.Proofs.YtnambnddoebeiaaDoor.Ints
open Go.RowKit

theorem infoF : (Tryd.prog.info? 2).map (fun i => (i.zero, i.size, i.bytes)) = some (some (.int .i64 0), 1, 8) := by kernel_rfl
end Go.Proofs.YtnambnddoebeiaaDoor.Ints
