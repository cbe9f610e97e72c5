/-
  Mathematics of a queue's entries of one class.
-/
import Derived.Test.YtmlnaijpbfddaaaQuT
import Derived.Test.YtmlnaijpbfddaaaQuP
namespace Go.Proofs.Ytmlnaijpbfddaaa
open Go.RowKit

/-- The entries of one class. -/
def clsF (xs : List Tr) (c : Int) : List Tr := xs.filter fun x => decide (x.b = c)
theorem clsF_yes {xs : List Tr} {k : Nat} {x : Tr} {c : Int} (h : xs[k]? = some x) (e : x.b = c) : clsF (xs.take (k + 1)) c = clsF (xs.take k) c ++ [x] := by
  have hk : k < xs.length := (List.getElem?_eq_some_iff.1 h).1
  have hx : xs[k] = x := (List.getElem?_eq_some_iff.1 h).2
  rw [List.take_succ_eq_append_getElem hk, hx]
  simp [clsF, List.filter_append, e]
theorem clsF_not {xs : List Tr} {k : Nat} {x : Tr} {c : Int} (h : xs[k]? = some x) (e : ¬ x.b = c) : clsF (xs.take (k + 1)) c = clsF (xs.take k) c := by
  have hk : k < xs.length := (List.getElem?_eq_some_iff.1 h).1
  have hx : xs[k] = x := (List.getElem?_eq_some_iff.1 h).2
  rw [List.take_succ_eq_append_getElem hk, hx]
  simp [clsF, List.filter_append, e]
theorem clsF_le (xs : List Tr) (c : Int) : (clsF xs c).length ≤ xs.length := List.length_filter_le _ _
theorem clsF_bytes (xs : List Tr) (c : Int) : bytesC (clsF xs c) c = bytesC xs c := by
  simp [clsF, bytesC, List.filter_filter]
theorem clsF_sz (xs : List Tr) (c : Int) : szE (clsF xs c) = bytesC xs c := rfl
theorem clsF_valid {xs : List Tr} {sh db : List Int} {t : Int} (h : validQ xs sh db t = true) (c : Int) : validQ (clsF xs c) sh db t = true := by
  obtain ⟨v1, v2, v3, v4⟩ := validQ_iff.1 h
  exact validQ_iff.2 ⟨validE_t ((validE_iff.1 v1).sub List.filter_sublist), v2, v3, v4⟩
theorem clsF_sum {xs : List Tr} {sh db : List Int} {t : Int} (h : validQ xs sh db t = true) (c : Int) : (bytesE (clsF xs c)).sum = bytesC xs c := by
  have hv := validE_iff.1 (validQ_iff.1 (clsF_valid h c)).1
  rw [bytesE_sum fun x hx => (hv.at_ hx).2.1, clsF_sz]
end Go.Proofs.Ytmlnaijpbfddaaa
