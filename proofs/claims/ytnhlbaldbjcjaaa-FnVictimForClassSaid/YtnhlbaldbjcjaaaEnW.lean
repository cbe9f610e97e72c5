/-
  Contracts of the laws' functions on lists of entries: size, copy, comparison, marks.
-/
import Derived.Test.YtnhlbaldbjcjaaaArW
import Derived.Test.YtnhlbaldbjcjaaaTriA
import Derived.Deep.DeepMust
import Derived.Deep.RegionHeld3
import Derived.IntWalk
namespace Go.Proofs.Ytnhlbaldbjcjaaa
open Go.RowKit
end Go.Proofs.Ytnhlbaldbjcjaaa
