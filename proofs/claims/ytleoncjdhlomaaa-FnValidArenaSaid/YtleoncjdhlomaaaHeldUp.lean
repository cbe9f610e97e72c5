/-
  A held region whose condition grows by what a call of the region itself has made.
-/
import Derived.Test.YtleoncjdhlomaaaBase
import Derived.Deep.RegionHeld3
namespace Go.Proofs.Ytleoncjdhlomaaa
open Go.RowKit

theorem wpAnyH_up {P : Program} {md : Region.Mode} {ops : Array Oper} {Q : Exit → Act → World → Prop} {S S' : World → Prop} (hS : ∀ w, S' w → S w) :
    ∀ (fuel : Nat) (listed : Array Bool) (a : Act) (w : World), wpAnyH P md ops Q S' fuel listed a w → wpAnyH P md ops Q S fuel listed a w
  | 0, _, _, _, h => h
  | fuel + 1, _, _, _, h => ⟨h.1, fun i hi => wpOp_mono (fun a' w' h' => ⟨hS _ h'.1, wpAnyH_up hS fuel _ a' w' h'.2⟩) (h.2 i hi)⟩

theorem shut_copy {p G : Prop} (h : Shut p) (g : Hid p → G) : G := g (Lib.hid h.out)

theorem shut_eq {P : Program} {md : Region.Mode} {ops : Array Oper} {Q : Exit → Act → World → Prop} {S : World → Prop} {fuel : Nat} {listed : Array Bool} {K : Act → World → Prop} (T : World → Prop)
    (h : Hid (∀ a w, S w → (S w → wpAnyH P md ops Q S fuel listed a w) → K a w)) :
    Shut (∀ a w, S w → (S w → wpAnyH P md ops Q S fuel listed a w) → K a w) =
      Shut (∀ a w, (T w ∧ S w) → ((T w ∧ S w) → wpAnyH P md ops Q (fun w => T w ∧ S w) fuel listed a w) → K a w) :=
  propext ⟨fun h a w s f => h.out a w s.2 fun _ => wpAnyH_up (fun _ s => s.2) _ _ _ _ (f s), fun _ => h.out⟩
end Go.Proofs.Ytleoncjdhlomaaa
