/-
  Contracts of budgets: credit given by the program, taken and given by the model.
-/
import Derived.Test.YtcbphifadokfeaaBudC
import Derived.RegionTactic
import Derived.BigRegion
namespace Go.Proofs.Ytcbphifadokfeaa
open Go.RowKit
attribute [local go_sem ↓] Go.wp_at_zero Go.wp_at_succ

end Go.Proofs.Ytcbphifadokfeaa
