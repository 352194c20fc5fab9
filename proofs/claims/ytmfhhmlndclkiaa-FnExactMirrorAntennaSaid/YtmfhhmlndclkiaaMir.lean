
/-
  The mirrored antenna, in the model: its losses as lists. Condition: at most 1048576 bytes and losses.
-/
import Derived.Test.YtmfhhmlndclkiaaMirI
import Derived.Test.YtmfhhmlndclkiaaAntCopy
namespace Go.Proofs.Ytmfhhmlndclkiaa.Ant
open Go.RowKit
open Plain
open Ints (Ints Own)

theorem spec_MirrorI (x0 : ByteArray) (x1 : Int) (v2 v3 : Value) (z2 z3 : List Int) (w : World) (q0 : x0.size ≤ 1048576) (q2 : z2.length ≤ 1048576) (q3 : z3.length ≤ 1048576) (h2 : Ints w v2 z2) (h3 : Ints w v3 z3) :
    Calls Try.prog 31 #[.agg #[.string x0, .int .i64 x1, v2, v3]] w fun e w' => ∃ a2 c2 a3 c3, e = .returned (.tuple #[.agg #[.string (miT (okA x0 x1 z2 z3) x0), .int .i64 (miG (okA x0 x1 z2 z3) x1), .slice a2 (miL (okA x0 x1 z2 z3) (mir z2)).length c2, .slice a3 (miL (okA x0 x1 z2 z3) z3).length c3], .int .i64 (miC (okA x0 x1 z2 z3))]) ∧ Ints w' (.slice a2 (miL (okA x0 x1 z2 z3) (mir z2)).length c2) (miL (okA x0 x1 z2 z3) (mir z2)) ∧ Ints w' (.slice a3 (miL (okA x0 x1 z2 z3) z3).length c3) (miL (okA x0 x1 z2 z3) z3) ∧ On w w' :=
  (spec_Mirror x0 x1 v2 v3 z2 z3 w q0 q2 q3 h2 h3).mono fun _ _ ⟨a2, c2, a3, c3, he, ho, hk⟩ => ⟨a2, c2, a3, c3, he, ho.ints2, ho.ints3, hk⟩
end Go.Proofs.Ytmfhhmlndclkiaa.Ant
