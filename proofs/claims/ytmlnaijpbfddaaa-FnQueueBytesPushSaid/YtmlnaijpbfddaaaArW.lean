/-
  Contracts of the laws' functions on arenas: size, copy, comparison.
-/
import Derived.Test.YtmlnaijpbfddaaaOwn
import Derived.Test.YtmlnaijpbfddaaaTri
import Derived.Lib.QuietBelow
import Derived.Deep.DeepMust
namespace Go.Proofs.Ytmlnaijpbfddaaa
open Go.RowKit

/-- A call has handed back new triples, and nothing that was there has turned. -/
def GaveTri (T : Nat) (w : World) (xs : List Tr) (e : Ending) (w' : World) : Prop :=
  ∃ A n c, e = .returned (.slice A n c) ∧ OT w' T w.heap.size A n c xs ∧ Below w.heap.size w w'
/-- A call has handed back an arena with new triples. -/
def GaveAr (T : Nat) (w : World) (s : Int) (xs : List Tr) (e : Ending) (w' : World) : Prop :=
  ∃ A n c, e = .returned (.agg #[.int .i64 s, .slice A n c]) ∧ OT w' T w.heap.size A n c xs ∧ Below w.heap.size w w'
theorem made3 (n : Nat) : (madeCells (Value.agg #[.int .i64 0, .int .i64 0, .int .i64 0]).cells (n * 3)).toList = cellsT (List.replicate n ⟨0, 0, 0⟩) := by
  have h1 : (madeCells (Value.agg #[.int .i64 0, .int .i64 0, .int .i64 0]).cells (n * 3)).toList = List.replicate (n * 3) (.int .i64 0) := by
    apply List.ext_getElem?
    intro j
    have hc : (Value.agg #[.int .i64 0, .int .i64 0, .int .i64 0]).cells = #[.int .i64 0, .int .i64 0, .int .i64 0] := rfl
    rw [hc]
    by_cases hj : j < n * 3
    · have h3 : (#[.int .i64 0, .int .i64 0, .int .i64 0] : Array Value)[j % 3]! = .int .i64 0 := by
        have h : j % 3 = 0 ∨ j % 3 = 1 ∨ j % 3 = 2 := by omega
        rcases h with h | h | h <;> simp [h]
      simp [madeCells, hj]
      have h : j % 3 = 0 ∨ j % 3 = 1 ∨ j % 3 = 2 := by omega
      rcases h with h | h | h <;> simp [h]
    · simp [madeCells, hj]
  have h2 : cellsT (List.replicate n ⟨0, 0, 0⟩) = List.replicate (n * 3) (.int .i64 0) := by
    clear h1
    induction n with
    | zero => rfl
    | succ m ih =>
      have e : (m + 1) * 3 = m * 3 + 1 + 1 + 1 := by omega
      rw [List.replicate_succ, e, List.replicate_succ, List.replicate_succ, List.replicate_succ, ← ih]
      simp [cellsT]
  rw [h1, h2]
theorem fill3_next {xs : List Tr} {n k : Nat} {x : Tr} (hl : xs.length = n) (hk : k < n) (hx : xs[k]? = some x) :
    (xs.take k ++ List.replicate (n - k) (⟨0, 0, 0⟩ : Tr)).set k x = xs.take (k + 1) ++ List.replicate (n - (k + 1)) ⟨0, 0, 0⟩ := by
  have hk' : k < xs.length := by omega
  have e : xs[k] = x := (List.getElem?_eq_some_iff.1 hx).2
  rw [List.set_append_right _ _ (by simp; omega), List.take_succ_eq_append_getElem hk', e]
  have h1 : k - (xs.take k).length = 0 := by rw [List.length_take]; omega
  rw [h1]
  obtain ⟨m, hm⟩ : ∃ m, n - k = m + 1 := ⟨n - k - 1, by omega⟩
  have h2 : n - (k + 1) = m := by omega
  rw [hm, h2, List.replicate_succ]
  simp
end Go.Proofs.Ytmlnaijpbfddaaa
