/-
  Contracts of the laws' functions on queues: size, copy, comparison, marks.
-/
import Derived.Test.YtmlnaijpbfddaaaEnW
import Derived.Test.YtmlnaijpbfddaaaQuV
namespace Go.Proofs.Ytmlnaijpbfddaaa
open Go.RowKit
/-- A call has handed back a queue with new memory. -/
def GaveQu (T TI : Nat) (w : World) (xs : List Tr) (sh db : List Int) (t : Int) (e : Ending) (w' : World) : Prop :=
  ∃ A1 n1 c1 A2 n2 c2 A3 n3 c3, e = .returned (.agg #[.slice A1 n1 c1, .slice A2 n2 c2, .slice A3 n3 c3, .int .i64 t]) ∧ OT w' T w.heap.size A1 n1 c1 xs ∧ OW w' TI w.heap.size A2 n2 c2 sh ∧ OW w' TI w.heap.size A3 n3 c3 db ∧ Disj A1 A2 ∧ Disj A1 A3 ∧ Disj A2 A3 ∧ Below w.heap.size w w'
end Go.Proofs.Ytmlnaijpbfddaaa
