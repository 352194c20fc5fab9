
/-
  The losses of an antenna at an angle, in the model and in the program. Conditions: each theorem's own.
-/
import Derived.Test.YtmfhhmlndclkiaaAntOk
import Derived.Test.YtmfhhmlndclkiaaTurn
namespace Go.Proofs.Ytmfhhmlndclkiaa.Ant
open Go.RowKit
open Plain
open Ints (Ints Own)

end Go.Proofs.Ytmfhhmlndclkiaa.Ant
