/-
  Contracts of the laws' functions on lists of entries: size, copy, comparison, marks.
-/
import Derived.Test.YtdmkimgjochibaaArW
import Derived.Test.YtdmkimgjochibaaTriA
import Derived.Deep.DeepMust
import Derived.Deep.RegionHeld3
import Derived.IntWalk
namespace Go.Proofs.Ytdmkimgjochibaa
open Go.RowKit
end Go.Proofs.Ytdmkimgjochibaa
