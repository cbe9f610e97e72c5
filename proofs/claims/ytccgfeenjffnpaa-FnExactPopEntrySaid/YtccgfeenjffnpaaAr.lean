/-
  Contracts of arenas: validity on both sides.
-/
import Derived.Test.YtccgfeenjffnpaaOwn
import Derived.Test.YtccgfeenjffnpaaArM
import Derived.Lib.QuietBelow
import Derived.IntWalk
import Derived.Deep.DeepMust
namespace Go.Proofs.Ytccgfeenjffnpaa
open Go.RowKit
end Go.Proofs.Ytccgfeenjffnpaa
