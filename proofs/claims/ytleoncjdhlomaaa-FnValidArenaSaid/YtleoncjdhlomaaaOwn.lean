/-
  Contracts of the functions that make, mark or check integers of the call's own.
-/
import Derived.Test.YtleoncjdhlomaaaInt
namespace Go.Proofs.Ytleoncjdhlomaaa
open Go.RowKit

theorem infoInt : (Try.prog.info? 3).map (fun i => (i.zero, i.size, i.bytes)) = some (some (.int .i64 0), 1, 8) := by kernel_rfl

/-- What is left of a size, -1 if it is too great. -/
def szL (left : Int) (n : Nat) : Int := if left < (n : Int) then -1 else left - n
theorem szL_lo {left : Int} {n : Nat} (h : left < (n : Int)) : szL left n = -1 := if_pos h
theorem szL_hi {left : Int} {n : Nat} (h : (n : Int) ≤ left) : szL left n = left - n := if_neg (by omega)
end Go.Proofs.Ytleoncjdhlomaaa
