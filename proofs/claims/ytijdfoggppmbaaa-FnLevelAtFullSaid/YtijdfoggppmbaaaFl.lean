/-
  Contracts of the functions on times of batches: the validators, countUpTo, FlushTimes.
-/
import Derived.Test.YtijdfoggppmbaaaOwn
import Derived.Test.YtijdfoggppmbaaaFlM
import Derived.Lib.MinMax
import Derived.Deep.QuietTactic
namespace Go.Proofs.Ytijdfoggppmbaaa
open Go.RowKit

theorem OW.none (w : World) (T base : Nat) : OW w T base none 0 0 [] := ⟨rfl, .inl ⟨rfl, rfl⟩⟩
/-- The rest of a slice behind a place: the address stays where no room is behind it. -/
theorem IS.rest {w : World} {b off n c K : Nat} {xs : List Int} (h : IS w (some ⟨b, off, none⟩) n c xs) (hK : K ≤ n) :
    IS w (if c = K then some ⟨b, off, none⟩ else some ⟨b, off + K, none⟩) (n - K) (c - K) (xs.drop K) := by
  by_cases e : c = K
  · rw [if_pos e]
    have h1 := h.2.1
    have h2 := h.len
    have e1 : n - K = 0 := by omega
    have e2 : c - K = 0 := by omega
    rw [e1, e2, List.drop_of_length_le (by omega)]
    exact IS.empty w _ (Nat.zero_le _) (fun h => by cases h)
  · rw [if_neg e]
    have h1 := h.cut (lo := K) (hi := n) hK (Nat.le_refl _)
    rw [List.take_of_length_le (by have := h.len; omega)] at h1
    exact h1
end Go.Proofs.Ytijdfoggppmbaaa
