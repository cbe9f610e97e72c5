/-
  Contracts of the functions that make, mark or check integers of the call's own.
-/
import Derived.Test.YtpoikkbifdepoaaInt
namespace Go.Proofs.Ytpoikkbifdepoaa
open Go.RowKit

theorem infoInt : (Try.prog.info? 3).map (fun i => (i.zero, i.size, i.bytes)) = some (some (.int .i64 0), 1, 8) := by kernel_rfl

end Go.Proofs.Ytpoikkbifdepoaa
