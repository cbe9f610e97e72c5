/-
  An empty literal that is owned.
-/
import Derived.Test.YtbadgnekailnaaaApp
namespace Go.Proofs.Ytbadgnekailnaaa
open Go.RowKit

theorem OW.of_blk {w : World} {T base g : Nat} (hb : base ≤ g) (h : Blk w g T #[]) : OW w T base (some ⟨g, 0, none⟩) 0 0 [] := by
  refine ⟨rfl, .inr ⟨g, 0, #[], rfl, hb, h, Nat.le_refl _, by simp [maxLen], rfl, rfl⟩⟩
end Go.Proofs.Ytbadgnekailnaaa
