
/-
  What sort.Search returns for a property that fails further on once it fails. Condition: at most 1048576 indices.
-/
import Derived.Test.YtkcjbcllpbojhaaDoorLead
import Derived.Test.YtkcjbcllpbojhaaDoorOn
import Derived.IntWalk
import Derived.Handy
namespace Go.Proofs.YtkcjbcllpbojhaaDoor.Search
open Go.RowKit
open Plain
end Go.Proofs.YtkcjbcllpbojhaaDoor.Search
