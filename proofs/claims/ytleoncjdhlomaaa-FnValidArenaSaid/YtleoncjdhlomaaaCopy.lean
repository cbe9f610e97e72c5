/-
  Contracts of copies of integers: copyInts, slices.Clone.
-/
import Derived.Test.YtleoncjdhlomaaaOwn
import Derived.Lib.AppendZeros
import Derived.Deep.DeepMust
import Derived.Lib.SliceRun
namespace Go.Proofs.Ytleoncjdhlomaaa
open Go.RowKit

end Go.Proofs.Ytleoncjdhlomaaa
