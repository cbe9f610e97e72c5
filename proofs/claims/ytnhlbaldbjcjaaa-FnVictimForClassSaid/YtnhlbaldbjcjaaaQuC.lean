/-
  Contracts of queues: copies.
-/
import Derived.Test.YtnhlbaldbjcjaaaQuW
import Derived.Test.YtnhlbaldbjcjaaaCopy
import Derived.Test.YtnhlbaldbjcjaaaTriB
import Derived.Deep.RegionHeld3
import Derived.Deep.RegionLaw
import Derived.Deep.RegionHeldLaw
namespace Go.Proofs.Ytnhlbaldbjcjaaa
open Go.RowKit
theorem infoEnt2 : (Try.prog.info? 28).map (fun i => (i.zero, i.size, i.bytes)) = some (some (.agg #[.int .i64 0, .int .i64 0, .int .i64 0]), 3, 24) := by kernel_rfl
theorem OT.below_grown {a w w' : World} {T base B : Nat} {A : Option Addr} {n c : Nat} {xs : List Tr} (h : OT w T base A n c xs) (hg : Row w w' A) (hb : Below B a w) (hB : B ≤ base) (hs : B ≤ w.heap.size) : Below B a w' :=
  below_row hb hg hs (h.ge.mono hB)
end Go.Proofs.Ytnhlbaldbjcjaaa
