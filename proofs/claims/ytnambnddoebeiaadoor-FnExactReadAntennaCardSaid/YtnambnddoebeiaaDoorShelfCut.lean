/-
  A stand-in without contents: the contracts of strings.Cut are not wanted here.
-/
import Derived.Test.YtnambnddoebeiaaDoorShelfNum
