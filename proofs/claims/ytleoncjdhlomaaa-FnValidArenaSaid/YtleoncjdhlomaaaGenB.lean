/-
  Drawn integers that may be spoilt, and classes.
-/
import Derived.Test.YtleoncjdhlomaaaGen
import Derived.Test.YtleoncjdhlomaaaCopy
namespace Go.Proofs.Ytleoncjdhlomaaa
open Go.RowKit

theorem IS.kept {w w' : World} {A : Option Addr} {n c : Nat} {xs : List Int} (h : IS w A n c xs) (hk : ∀ p : Addr, A = some p → p.block < w.heap.size → w'.heap[p.block]? = w.heap[p.block]?) : IS w' A n c xs := by
  refine ⟨h.1, h.2.1, h.2.2.1, fun hn => ?_, h.2.2.2.2⟩
  obtain ⟨b, off, rfl, hc⟩ := h.2.2.2.1 hn
  refine ⟨b, off, rfl, fun j hj => ?_⟩
  have hlt := World.block_lt_of_cell? w ⟨b, off + j, none⟩ (hc j hj)
  rw [← hc j hj]
  exact World.cell?_of_block (hk ⟨b, off, none⟩ rfl hlt)
theorem IS.rd {w w' : World} {r : Nat} {A : Option Addr} {n c : Nat} {xs : List Int} (h : IS w A n c xs) (hg : Rd w w' r) (hr : Ge A (r + 1)) : IS w' A n c xs :=
  h.kept fun p hp hlt => hg.block p.block hlt (fun e => by injection e with e; have := hr p hp; omega)
theorem IS.setCell {w : World} {A : Option Addr} {n c : Nat} {xs : List Int} (h : IS w A n c xs) {p : Addr} (hd : Disj (some ⟨p.block, 0, none⟩) A) (u : Value) : IS (w.setCell p u) A n c xs :=
  h.kept fun q hq _ => Below.heap_setCell w p u q.block (fun e => hd _ _ rfl hq e.symm)
/-- Drawn integers. -/
def DrewInts (R : TypeId) (w : World) (r N m : Nat) (e : Ending) (w' : World) : Prop :=
  ∃ xs A n c, e = .returned (.slice A n c) ∧ n ≤ m ∧ IS w' A n c xs ∧ Ge A w.heap.size ∧ RD w' R r N ∧ Rd w w' r
end Go.Proofs.Ytleoncjdhlomaaa
