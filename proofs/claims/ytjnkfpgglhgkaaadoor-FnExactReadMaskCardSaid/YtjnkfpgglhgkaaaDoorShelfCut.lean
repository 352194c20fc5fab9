/-
  What the reading of points asks of the library: nothing more than the numbers.
-/
import Derived.Test.YtjnkfpgglhgkaaaDoorShelfNum
