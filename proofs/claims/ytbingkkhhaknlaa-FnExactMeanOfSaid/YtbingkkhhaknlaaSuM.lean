/-
  Mathematics of sums: the validator, the mean.
-/
import Derived.Test.YtbingkkhhaknlaaSu
namespace Go.Proofs.Ytbingkkhhaknlaa
open Go.RowKit

def okV (x : Su) : Bool := inR x.b 1 100 && inR x.d 0 255 && inR x.e x.d 255 && inR x.c (x.d * x.b) (x.e * x.b)
def lastS (k : Int) : List Su → Int
  | [] => k
  | x :: l => lastS x.a l
def okF (k : Int) : List Su → Bool
  | [] => true
  | x :: l => inR x.a (k + 1) 255 && okV x && okF x.a l
theorem okF_append (k : Int) (xs ys : List Su) : okF k (xs ++ ys) = (okF k xs && okF (lastS k xs) ys) := by
  induction xs generalizing k with
  | nil => rfl
  | cons x l ih => simp only [List.cons_append, okF, lastS, ih, Bool.and_assoc]
theorem lastS_append (k : Int) (xs ys : List Su) : lastS k (xs ++ ys) = lastS (lastS k xs) ys := by
  induction xs generalizing k with
  | nil => rfl
  | cons x l ih => simp only [List.cons_append, lastS, ih]
theorem okF_step {xs : List Su} {k : Nat} {x : Su} (hx : xs[k]? = some x) : okF (-1) (xs.take (k + 1)) = (okF (-1) (xs.take k) && (inR x.a (lastS (-1) (xs.take k) + 1) 255 && okV x)) ∧ lastS (-1) (xs.take (k + 1)) = x.a := by
  have hk : k < xs.length := (List.getElem?_eq_some_iff.1 hx).1
  have e : xs[k] = x := (List.getElem?_eq_some_iff.1 hx).2
  rw [List.take_succ_eq_append_getElem hk, e, okF_append, lastS_append]
  refine ⟨?_, rfl⟩
  simp only [okF, Bool.and_true]
theorem okF_bad {xs : List Su} {k : Nat} (h : okF (-1) (xs.take k) = false) : okF (-1) xs = false := by
  rw [← List.take_append_drop k xs, okF_append, h, Bool.false_and]
theorem okF_bd {xs : List Su} {k : Int} (hk : -1 ≤ k ∧ k ≤ 255) (h : okF k xs = true) : -1 ≤ lastS k xs ∧ lastS k xs ≤ 255 := by
  induction xs generalizing k with
  | nil => exact hk
  | cons x l ih =>
    simp only [okF, Bool.and_eq_true] at h
    have := inR_iff.1 h.1.1
    exact ih (by omega) h.2
theorem okF_at {xs : List Su} {k : Int} (h : okF k xs = true) {x : Su} (hx : x ∈ xs) : okV x = true := by
  induction xs generalizing k with
  | nil => cases hx
  | cons y l ih =>
    simp only [okF, Bool.and_eq_true] at h
    rcases List.mem_cons.1 hx with rfl | hx
    · exact h.1.2
    · exact ih h.2 hx
def validS (xs : List Su) : Bool := decide (xs.length ≤ 8) && okF (-1) xs
theorem validS_in {xs : List Su} (h : validS xs = true) : xs.length ≤ 8 ∧ okF (-1) xs = true := by simpa [validS] using h
theorem validS_long {xs : List Su} (h : ¬ xs.length ≤ 8) : validS xs = false := by simp [validS, h]
theorem validS_bad {xs : List Su} (h : okF (-1) xs = false) : validS xs = false := by simp [validS, h]
theorem okV_in {x : Su} (h : okV x = true) : (1 ≤ x.b ∧ x.b ≤ 100) ∧ (0 ≤ x.d ∧ x.d ≤ 255) ∧ (x.d ≤ x.e ∧ x.e ≤ 255) ∧ (x.d * x.b ≤ x.c ∧ x.c ≤ x.e * x.b) := by
  simp only [okV, Bool.and_eq_true, inR_iff] at h
  exact ⟨h.1.1.1, h.1.1.2, h.1.2, h.2⟩
theorem mul_bd5 {a b m n : Int} (h0 : 0 ≤ a) (h1 : a ≤ m) (h2 : 0 ≤ b) (h3 : b ≤ n) : 0 ≤ a * b ∧ a * b ≤ m * n :=
  ⟨Int.mul_nonneg h0 h2, Int.mul_le_mul h1 h3 h2 (by omega)⟩
/-- The mean of a key: of the first sum with it. -/
def meanAt (key : Int) : List Su → Option Int
  | [] => none
  | x :: l => if x.a = key then some (x.c.tdiv x.b) else meanAt key l
theorem meanAt_none {key : Int} {xs : List Su} (h : ∀ x ∈ xs, x.a ≠ key) : meanAt key xs = none := by
  induction xs with
  | nil => rfl
  | cons y l ih => simp only [meanAt]; rw [if_neg (h y (by simp)), ih (fun x hx => h x (List.mem_cons_of_mem _ hx))]
theorem meanAt_yes {key : Int} {xs : List Su} {k : Nat} {x : Su} (hx : xs[k]? = some x) (hk : x.a = key) (hb : ∀ j y, j < k → xs[j]? = some y → y.a ≠ key) : meanAt key xs = some (x.c.tdiv x.b) := by
  induction xs generalizing k with
  | nil => simp at hx
  | cons y l ih =>
    rcases k with _ | k
    · simp at hx; subst hx; simp only [meanAt]; rw [if_pos hk]
    · simp only [meanAt]
      rw [if_neg (hb 0 y (by omega) rfl)]
      exact ih (by simpa using hx) (fun j z hj hz => hb (j + 1) z (by omega) (by simpa using hz))
def meV (xs : List Su) (key : Int) : Int := if validS xs then (meanAt key xs).getD 0 else 0
def meOK (xs : List Su) (key : Int) : Bool := validS xs && (meanAt key xs).isSome
end Go.Proofs.Ytbingkkhhaknlaa
