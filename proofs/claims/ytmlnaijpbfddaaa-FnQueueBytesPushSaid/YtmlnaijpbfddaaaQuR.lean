/-
  Mathematics of the laws on entries; the laws' sizeOf.
-/
import Derived.Test.YtmlnaijpbfddaaaQuA
import Derived.Test.YtmlnaijpbfddaaaQuP
import Derived.Test.YtmlnaijpbfddaaaQuB
namespace Go.Proofs.Ytmlnaijpbfddaaa
open Go.RowKit

theorem ValidE.of {xs : List Tr} (hl : xs.length ≤ 10) (hr : ∀ x ∈ xs, (0 ≤ x.a ∧ x.a ≤ 99) ∧ (0 ≤ x.b ∧ x.b ≤ 2) ∧ (1 ≤ x.c ∧ x.c ≤ 20))
    (hne : ∀ (i j : Nat) (x y : Tr), xs[i]? = some x → xs[j]? = some y → i < j → x.a ≠ y.a) : ValidE xs := by
  refine ⟨hl, fun j hj x hx => ?_⟩
  obtain ⟨h1, h2, h3⟩ := hr x (List.mem_of_getElem? hx)
  refine ⟨h1, fun y hy => ?_, h2, h3⟩
  obtain ⟨i, hi, e⟩ := List.getElem_of_mem hy
  have hij : i < j := by rw [List.length_take] at hi; omega
  have e2 : xs[i]? = some y := by
    have := List.getElem?_eq_getElem hi
    rw [e, List.getElem?_take, if_pos hij] at this
    exact this
  exact hne i j y x e2 hx hij
theorem ValidE.rev {xs : List Tr} (h : ValidE xs) : ValidE xs.reverse := by
  refine ValidE.of (by rw [List.length_reverse]; exact h.1) (fun x hx => h.at_ (List.mem_reverse.1 hx)) fun i j x y hi hj hlt => ?_
  have hjl : j < xs.length := by have := (List.getElem?_eq_some_iff.1 hj).1; rw [List.length_reverse] at this; exact this
  rw [List.getElem?_reverse (by omega)] at hi
  rw [List.getElem?_reverse hjl] at hj
  exact h.ne hi hj (by omega)
theorem validE_rev (xs : List Tr) : validE xs.reverse = validE xs := by
  rcases h : validE xs with _ | _
  · refine validE_f fun h2 => ?_
    have h3 := h2.rev
    rw [List.reverse_reverse] at h3
    rw [validE_t h3] at h
    cases h
  · exact validE_t (validE_iff.1 h).rev
theorem drop_rev {xs : List Tr} {p : Nat} {x : Tr} (h : xs[p]? = some x) : (xs.drop p).reverse = (xs.drop (p + 1)).reverse ++ [x] := by
  have hp := (List.getElem?_eq_some_iff.1 h).1
  have e := (List.getElem?_eq_some_iff.1 h).2
  rw [List.drop_eq_getElem_cons hp, List.reverse_cons, e]
theorem validE_twice {xs : List Tr} {x : Tr} (h : xs[0]? = some x) : validE (xs ++ [x]) = false := by
  refine validE_f fun hv => ?_
  have h0 := (List.getElem?_eq_some_iff.1 h).1
  exact hv.ne (i := 0) (j := xs.length) (x := x) (y := x) (by rw [List.getElem?_append_left h0]; exact h) (by simp) (by omega) rfl
def szE (xs : List Tr) : Int := (xs.map Tr.c).sum
theorem szE_next {xs : List Tr} {k : Nat} {x : Tr} (h : xs[k]? = some x) : szE (xs.take (k + 1)) = szE (xs.take k) + x.c := by
  have hk : k < xs.length := (List.getElem?_eq_some_iff.1 h).1
  have hx : xs[k] = x := (List.getElem?_eq_some_iff.1 h).2
  unfold szE
  rw [List.take_succ_eq_append_getElem hk, hx]
  simp
theorem shedB_cons (x : Tr) (xs : List Tr) (c : Int) : shedB (x :: xs) c = (if c < x.b then x.c else 0) + shedB xs c := by
  unfold shedB
  by_cases h : c < x.b <;> simp [List.filter_cons, h]
theorem bytesC_cons (x : Tr) (xs : List Tr) (c : Int) : bytesC (x :: xs) c = (if x.b = c then x.c else 0) + bytesC xs c := by
  unfold bytesC
  by_cases h : x.b = c <;> simp [List.filter_cons, h]
theorem szE_cons (x : Tr) (xs : List Tr) : szE (x :: xs) = x.c + szE xs := by simp [szE]
theorem shedB_le {xs : List Tr} (h : ∀ x ∈ xs, 1 ≤ x.c ∧ x.c ≤ 20) (c : Int) : shedB xs c ≤ szE xs := by
  induction xs with
  | nil => simp [shedB, szE]
  | cons x xs ih =>
    have h1 := ih (fun y hy => h y (List.mem_cons_of_mem _ hy))
    have h2 := h x List.mem_cons_self
    rw [shedB_cons, szE_cons]
    split <;> omega
theorem shedB_mono {xs : List Tr} (h : ∀ x ∈ xs, 1 ≤ x.c ∧ x.c ≤ 20) (c : Int) : shedB xs (c + 1) ≤ shedB xs c := by
  induction xs with
  | nil => simp [shedB]
  | cons x xs ih =>
    have h1 := ih (fun y hy => h y (List.mem_cons_of_mem _ hy))
    have h2 := h x List.mem_cons_self
    rw [shedB_cons, shedB_cons]
    split <;> split <;> omega
theorem shedB_two {xs : List Tr} (h : ∀ x ∈ xs, 0 ≤ x.b ∧ x.b ≤ 2) : shedB xs 2 = 0 := by
  induction xs with
  | nil => simp [shedB]
  | cons x xs ih =>
    have h1 := ih (fun y hy => h y (List.mem_cons_of_mem _ hy))
    have h2 := h x List.mem_cons_self
    rw [shedB_cons, h1, if_neg (by omega)]
    rfl
theorem shedB_own {xs : List Tr} (h : ∀ x ∈ xs, 0 ≤ x.b ∧ x.b ≤ 2) : shedB xs 0 + bytesC xs 0 = szE xs := by
  induction xs with
  | nil => simp [shedB, szE, bytesC]
  | cons x xs ih =>
    have h1 := ih (fun y hy => h y (List.mem_cons_of_mem _ hy))
    have h2 := h x List.mem_cons_self
    rw [shedB_cons, szE_cons, bytesC_cons]
    split <;> split <;> omega
theorem szE_bd {xs : List Tr} (h : ∀ x ∈ xs, 1 ≤ x.c ∧ x.c ≤ 20) : 0 ≤ szE xs ∧ szE xs ≤ 20 * (xs.length : Int) := by
  induction xs with
  | nil => simp [szE]
  | cons x xs ih =>
    have h1 := ih (fun y hy => h y (List.mem_cons_of_mem _ hy))
    have h2 := h x List.mem_cons_self
    rw [szE_cons]
    simp
    omega
theorem canShed_ok {xs : List Tr} {c : Int} (h : ¬ canShed xs c < 0) : validE xs = true ∧ inR c 0 2 = true := by
  rcases hv : validE xs with _ | _
  · rw [canShed_f (.inl hv)] at h; omega
  rcases hc : inR c 0 2 with _ | _
  · rw [canShed_f (.inr hc)] at h; omega
  exact ⟨rfl, rfl⟩
end Go.Proofs.Ytmlnaijpbfddaaa
