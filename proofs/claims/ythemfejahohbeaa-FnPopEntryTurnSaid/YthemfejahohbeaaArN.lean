/-
  Contracts of arenas: the number of a block.
-/
import Derived.Test.YthemfejahohbeaaArI
import Derived.Test.YthemfejahohbeaaAr
namespace Go.Proofs.Ythemfejahohbeaa
open Go.RowKit

/-- The number of the first block with a name, the length for none. -/
def whereA (nm : Int) (xs : List Tr) : Nat := xs.findIdx (fun x => x.a == nm)
/-- The same as a Go function hands it back. -/
def namedA (nm : Int) (xs : List Tr) : Int := if whereA nm xs < xs.length then (whereA nm xs : Int) else -1
theorem named_at {nm : Int} {xs : List Tr} {k : Nat} {x : Tr} (h : xs[k]? = some x) (hx : x.a = nm) (hb : ∀ j, j < k → ∀ y, xs[j]? = some y → y.a ≠ nm) : namedA nm xs = (k : Int) := by
  have hk : k < xs.length := (List.getElem?_eq_some_iff.1 h).1
  have hv : xs[k] = x := (List.getElem?_eq_some_iff.1 h).2
  have e : whereA nm xs = k := by
    unfold whereA
    rw [List.findIdx_eq hk]
    refine ⟨by simp [hv, hx], fun j hj => ?_⟩
    have := hb j hj _ (List.getElem?_eq_getElem (Nat.lt_trans hj hk))
    simpa using this
  simp [namedA, e, hk]
theorem named_none {nm : Int} {xs : List Tr} (hb : ∀ j, j < xs.length → ∀ y, xs[j]? = some y → y.a ≠ nm) : namedA nm xs = -1 := by
  have e : whereA nm xs = xs.length := by
    unfold whereA
    rw [List.findIdx_eq_length]
    intro x hx
    obtain ⟨j, hj, e⟩ := List.mem_iff_getElem.1 hx
    have := hb j hj x (by rw [List.getElem?_eq_getElem hj, e])
    simpa using this
  simp [namedA, e]
theorem named_neg {nm : Int} {xs : List Tr} : namedA nm xs < 0 ↔ ¬ whereA nm xs < xs.length := by
  unfold namedA
  split <;> omega
theorem named_eq {nm : Int} {xs : List Tr} (h : whereA nm xs < xs.length) : namedA nm xs = (whereA nm xs : Int) := by
  simp [namedA, h]
end Go.Proofs.Ythemfejahohbeaa
