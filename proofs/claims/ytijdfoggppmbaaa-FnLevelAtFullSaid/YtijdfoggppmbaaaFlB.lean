/-
  FlushTimes of the model and of the program.
-/
import Derived.Test.YtijdfoggppmbaaaFl
namespace Go.Proofs.Ytijdfoggppmbaaa
open Go.RowKit

theorem allR_drop {xs : List Int} {lo hi : Int} (h : allR xs lo hi = true) (k : Nat) : allR (xs.drop k) lo hi = true := by
  unfold allR at *
  rw [List.all_eq_true] at *
  exact fun x hx => h x (List.mem_of_mem_drop hx)
def lenS : Value → Nat
  | .slice _ n _ => n
  | _ => 0

end Go.Proofs.Ytijdfoggppmbaaa
