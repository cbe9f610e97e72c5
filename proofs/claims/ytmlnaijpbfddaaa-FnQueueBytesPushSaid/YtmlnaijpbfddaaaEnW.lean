/-
  Contracts of the laws' functions on lists of entries: size, copy, comparison, marks.
-/
import Derived.Test.YtmlnaijpbfddaaaArW
import Derived.Test.YtmlnaijpbfddaaaTriA
import Derived.Deep.DeepMust
import Derived.Deep.RegionHeld3
import Derived.IntWalk
namespace Go.Proofs.Ytmlnaijpbfddaaa
open Go.RowKit
end Go.Proofs.Ytmlnaijpbfddaaa
