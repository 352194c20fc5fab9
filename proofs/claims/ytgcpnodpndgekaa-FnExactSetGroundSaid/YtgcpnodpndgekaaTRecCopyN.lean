
/-
  The laws' copy of a terrain, without its room.
-/
import Derived.Test.YtgcpnodpndgekaaTRecCopy
namespace Go.Proofs.Ytgcpnodpndgekaa.TRec
open Go.RowKit
open Ints (Ints Own)
theorem copyN (x0 x1 x2 : Int) (v3 v4 : Value) (z3 z4 : List Int) (w : World) (n3 : z3.length ≤ 1048576) (n4 : z4.length ≤ 1048576) (h3 : Ints w v3 z3) (h4 : Ints w v4 z4) :
    Calls Try.prog 6 #[.agg #[.int .i64 x0, .int .i64 x1, .int .i64 x2, v3, v4]] w fun e w' => ∃ a3 cap3 a4 cap4, e = .returned (.agg #[.int .i64 x0, .int .i64 x1, .int .i64 x2, .slice a3 z3.length cap3, .slice a4 z4.length cap4]) ∧ OwnR w.heap.size w' a3 z3.length cap3 a4 z4.length cap4 z3 z4 ∧ On w w' :=
  (copyR x0 x1 x2 v3 v4 z3 z4 w n3 n4 h3 h4).mono fun _ _ ⟨a3, c3, a4, c4, he, ho, _, k⟩ => ⟨a3, c3, a4, c4, he, ho, k⟩
end Go.Proofs.Ytgcpnodpndgekaa.TRec
