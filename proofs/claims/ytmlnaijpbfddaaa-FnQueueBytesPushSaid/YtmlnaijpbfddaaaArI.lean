/-
  Contracts of arenas: validity by the program.
-/
import Derived.Test.YtmlnaijpbfddaaaOwn
import Derived.Test.YtmlnaijpbfddaaaArM
import Derived.Lib.QuietBelow
import Derived.IntWalk
import Derived.Deep.DeepMust
namespace Go.Proofs.Ytmlnaijpbfddaaa
open Go.RowKit
/-- A name is among the first k ones. -/
def seen (xs : List Tr) (k v : Nat) : Bool := (xs.take k).any fun y => decide (y.a = (v : Int))
theorem seen_zero (xs : List Tr) (v : Nat) : seen xs 0 v = false := by simp [seen]
theorem seen_next {xs : List Tr} {k v : Nat} {x : Tr} (h : xs[k]? = some x) : seen xs (k + 1) v = (seen xs k v || decide (x.a = (v : Int))) := by
  have hk : k < xs.length := (List.getElem?_eq_some_iff.1 h).1
  have hx : xs[k] = x := (List.getElem?_eq_some_iff.1 h).2
  simp [seen, List.take_succ_eq_append_getElem hk, hx]
theorem seen_f {xs : List Tr} {k v : Nat} {x : Tr} (h : seen xs k v = false) (hx : x.a = (v : Int)) : ∀ y ∈ xs.take k, y.a ≠ x.a := fun y hy e => by
  have h1 : seen xs k v = true := List.any_eq_true.2 ⟨y, hy, by simp [e, hx]⟩
  rw [h] at h1
  cases h1
theorem seen_t {xs : List Tr} {k v : Nat} {x : Tr} (h : seen xs k v = true) (hx : x.a = (v : Int)) : ¬ ∀ y ∈ xs.take k, y.a ≠ x.a := fun hh => by
  obtain ⟨y, hy, e⟩ := List.any_eq_true.1 h
  simp at e
  exact hh y hy (by omega)
/-- Block g tells for each name whether it is among the first k ones. -/
def Named (w : World) (T g : Nat) (xs : List Tr) (k : Nat) : Prop := ∃ arr : Array Value, Blk w g T arr ∧ arr.size = 100 ∧ ∀ v : Nat, v < 100 → arr[v]? = some (.bool (seen xs k v))
theorem Named.on {w w' : World} {T g k : Nat} {xs : List Tr} (h : Named w T g xs k) (hb : Below w.heap.size w w') : Named w' T g xs k := by
  obtain ⟨arr, h1, h2, h3⟩ := h
  exact ⟨arr, h1.on hb, h2, h3⟩
theorem Named.at_ {w : World} {T g k : Nat} {xs : List Tr} (h : Named w T g xs k) {v : Nat} (hv : v < 100) : w.cell? ⟨g, v, none⟩ = some (.bool (seen xs k v)) ∧ w.frozen? ⟨g, v, none⟩ = false := by
  obtain ⟨arr, h1, h2, h3⟩ := h
  exact ⟨(h1.cell v).trans (h3 v hv), h1.frozen v⟩
theorem Named.lt {w : World} {T g k : Nat} {xs : List Tr} (h : Named w T g xs k) : g < w.heap.size := by
  obtain ⟨arr, h1, _⟩ := h
  exact h1.lt
theorem Named.next {w : World} {T g k : Nat} {xs : List Tr} {x : Tr} (h : Named w T g xs k) (hx : xs[k]? = some x) {v : Nat} (hv : x.a = (v : Int)) (h100 : v < 100) : Named (w.setCell ⟨g, v, none⟩ (.bool true)) T g xs (k + 1) := by
  obtain ⟨arr, h1, h2, h3⟩ := h
  refine ⟨arr.setIfInBounds v (.bool true), h1.set_ v _, by simpa using h2, fun u hu => ?_⟩
  rw [Array.getElem?_setIfInBounds, seen_next hx]
  by_cases e : v = u
  · subst e
    rw [if_pos rfl, if_pos (by omega), decide_eq_true hv, Bool.or_true]
  · rw [if_neg e, h3 u hu, decide_eq_false (by omega), Bool.or_false]
theorem Named.new (w : World) (T : Nat) (xs : List Tr) : Named (w.alloc (.cells (Array.replicate 100 (.bool false)) T)) T w.heap.size xs 0 :=
  ⟨_, Blk.new _ _ _, by simp, fun v hv => by rw [seen_zero]; simp [hv]⟩
theorem validA_bad2 {s : Int} {xs : List Tr} {k : Nat} (hk : k < xs.length) (h : ¬ okAt s xs k) : ¬ ValidA s xs := fun hv => h (hv.2.2 k hk)
end Go.Proofs.Ytmlnaijpbfddaaa
