/-
  Contracts of budgets: credit given by the model.
-/
import Derived.Test.YtcbphifadokfeaaBudE
namespace Go.Proofs.Ytcbphifadokfeaa
open Go.RowKit
attribute [local go_sem ↓] Go.wp_at_zero Go.wp_at_succ
end Go.Proofs.Ytcbphifadokfeaa
