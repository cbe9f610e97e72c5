/-
  Contracts of copies of integers: copyInts, slices.Clone.
-/
import Derived.Test.YtijdfoggppmbaaaOwn
import Derived.Lib.AppendZeros
import Derived.Deep.DeepMust
import Derived.Lib.SliceRun
namespace Go.Proofs.Ytijdfoggppmbaaa
open Go.RowKit

end Go.Proofs.Ytijdfoggppmbaaa
