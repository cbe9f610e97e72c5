/-
  Contracts of arenas: validity on both sides.
-/
import Derived.Test.YthemfejahohbeaaOwn
import Derived.Test.YthemfejahohbeaaArM
import Derived.Lib.QuietBelow
import Derived.IntWalk
import Derived.Deep.DeepMust
namespace Go.Proofs.Ythemfejahohbeaa
open Go.RowKit
end Go.Proofs.Ythemfejahohbeaa
