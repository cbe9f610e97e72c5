/-
  Contracts of the laws' functions on lists of entries: size, copy, comparison, marks.
-/
import Derived.Test.YthemfejahohbeaaArW
import Derived.Test.YthemfejahohbeaaTriA
import Derived.Deep.DeepMust
import Derived.Deep.RegionHeld3
import Derived.IntWalk
namespace Go.Proofs.Ythemfejahohbeaa
open Go.RowKit
end Go.Proofs.Ythemfejahohbeaa
