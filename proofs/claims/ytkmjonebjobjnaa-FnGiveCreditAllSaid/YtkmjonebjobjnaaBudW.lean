/-
  Contracts of the laws' functions on budgets: size, copy, comparison, marks.
-/
import Derived.Test.YtkmjonebjobjnaaCopy
namespace Go.Proofs.Ytkmjonebjobjnaa
open Go.RowKit

/-- A call has handed back a budget with new integers, and nothing that was there has turned. -/
def GaveBud (T : Nat) (w : World) (t : Int) (ks us : List Int) (e : Ending) (w' : World) : Prop :=
  ∃ A n c A' n' c', e = .returned (.agg #[.int .i64 t, .slice A n c, .slice A' n' c']) ∧ OW w' T w.heap.size A n c ks ∧ OW w' T w.heap.size A' n' c' us ∧ Disj A A' ∧ Below w.heap.size w w'
end Go.Proofs.Ytkmjonebjobjnaa
