/-
  Contracts of copies of integers: copyInts, slices.Clone.
-/
import Derived.Test.YtnhlbaldbjcjaaaOwn
import Derived.Lib.AppendZeros
import Derived.Deep.DeepMust
import Derived.Lib.SliceRun
namespace Go.Proofs.Ytnhlbaldbjcjaaa
open Go.RowKit

end Go.Proofs.Ytnhlbaldbjcjaaa
