/-
  Mathematics of the times at which batches are sent.
-/
import Derived.Test.YtokajigaicdffaaInt
namespace Go.Proofs.Ytokajigaicdffaa

/-- The numbers do not fall. -/
def ascB (xs : List Int) : Bool := decide (∀ i, i < xs.length - 1 → xs.getD i 0 ≤ xs.getD (i + 1) 0)
theorem asc_iff {xs : List Int} : ascB xs = true ↔ ∀ i, i + 1 < xs.length → xs.getD i 0 ≤ xs.getD (i + 1) 0 := by
  simp only [ascB, decide_eq_true_eq]
  constructor
  · intro h i hi; exact h i (by omega)
  · intro h i hi; exact h i (by omega)
theorem asc_no {xs : List Int} {i : Nat} (hi : i + 1 < xs.length) (h : xs.getD (i + 1) 0 < xs.getD i 0) : ascB xs = false := by
  rcases e : ascB xs with _ | _
  · rfl
  · have := asc_iff.1 e i hi
    omega
theorem getD_of {xs : List Int} {k : Nat} {v : Int} (h : xs[k]? = some v) : xs.getD k 0 = v := by
  rw [List.getD_eq_getElem?_getD, h]; rfl
theorem drop_of {xs : List Int} {k : Nat} {v : Int} (h : xs[k]? = some v) : xs.drop k = v :: xs.drop (k + 1) := by
  have hk : k < xs.length := (List.getElem?_eq_some_iff.1 h).1
  have e : xs[k] = v := (List.getElem?_eq_some_iff.1 h).2
  rw [List.drop_eq_getElem_cons hk, e]
/-- How many of the first numbers are at most the last one, but not more than some. -/
def upN (last : Int) : Nat → List Int → Nat
  | 0, _ => 0
  | _ + 1, [] => 0
  | m + 1, x :: l => if x ≤ last then upN last m l + 1 else 0
theorem upN_le (last : Int) : ∀ (m : Nat) (xs : List Int), upN last m xs ≤ m ∧ upN last m xs ≤ xs.length
  | 0, _ => by simp [upN]
  | _ + 1, [] => by simp [upN]
  | m + 1, x :: l => by
    have := upN_le last m l
    simp only [upN, List.length_cons]
    split <;> omega
theorem upN_nil (last : Int) (m : Nat) : upN last m [] = 0 := by cases m <;> rfl
theorem upN_yes {last : Int} {m : Nat} {xs : List Int} {k : Nat} {v : Int} (h : xs[k]? = some v) (hv : v ≤ last) (hm : 0 < m) : upN last m (xs.drop k) = upN last (m - 1) (xs.drop (k + 1)) + 1 := by
  obtain ⟨m, rfl⟩ : ∃ j, m = j + 1 := ⟨m - 1, by omega⟩
  rw [drop_of h]
  simp [upN, hv]
theorem upN_no {last : Int} {m : Nat} {xs : List Int} {k : Nat} {v : Int} (h : xs[k]? = some v) (hv : last < v) : upN last m (xs.drop k) = 0 := by
  rw [drop_of h]
  cases m with
  | zero => rfl
  | succ m => simp only [upN]; rw [if_neg (by omega)]
def nL (age : Int) (many : Nat) (ys : List Int) : Nat := upN (ys.getD 0 0 + age) many ys
def dueL (age : Int) (many : Nat) (ys : List Int) : Int := if nL age many ys = many then ys.getD (nL age many ys - 1) 0 else ys.getD 0 0 + age
def flF (age : Int) (many : Nat) : Nat → List Int → List Int
  | 0, _ => []
  | f + 1, ys => if ys = [] then [] else dueL age many ys :: flF age many f (ys.drop (nL age many ys))
/-- When the batches are sent. -/
def FL (age : Int) (many : Nat) (ys : List Int) : List Int := flF age many ys.length ys
theorem nL_pos {age : Int} {many : Nat} {ys : List Int} (h : ys ≠ []) (ha : 0 ≤ age) (hm : 1 ≤ many) : 1 ≤ nL age many ys := by
  obtain ⟨m, rfl⟩ : ∃ m, many = m + 1 := ⟨many - 1, by omega⟩
  cases ys with
  | nil => exact absurd rfl h
  | cons y l =>
    simp only [nL, upN, List.getD_cons_zero]
    rw [if_pos (by omega)]
    omega
theorem nL_le (age : Int) (many : Nat) (ys : List Int) : nL age many ys ≤ many ∧ nL age many ys ≤ ys.length := upN_le _ _ _
theorem flF_fuel {age : Int} {many : Nat} (ha : 0 ≤ age) (hm : 1 ≤ many) : ∀ (f g : Nat) (ys : List Int), ys.length ≤ f → ys.length ≤ g → flF age many f ys = flF age many g ys
  | 0, g, ys, h, _ => by
    obtain rfl : ys = [] := List.eq_nil_of_length_eq_zero (by omega)
    cases g <;> simp [flF]
  | f + 1, 0, ys, _, h => by
    obtain rfl : ys = [] := List.eq_nil_of_length_eq_zero (by omega)
    simp [flF]
  | f + 1, g + 1, ys, h1, h2 => by
    by_cases e : ys = []
    · subst e; simp [flF]
    · have hp := nL_pos e ha hm
      simp only [flF, if_neg e]
      rw [flF_fuel ha hm f g _ (by rw [List.length_drop]; omega) (by rw [List.length_drop]; omega)]
theorem FL_nil (age : Int) (many : Nat) : FL age many [] = [] := rfl
theorem FL_next {age : Int} {many : Nat} {ys : List Int} (h : ys ≠ []) (ha : 0 ≤ age) (hm : 1 ≤ many) : FL age many ys = dueL age many ys :: FL age many (ys.drop (nL age many ys)) := by
  have hp := nL_pos h ha hm
  obtain ⟨k, hk⟩ : ∃ k, ys.length = k + 1 := ⟨ys.length - 1, by have := List.length_pos_iff.2 h; omega⟩
  unfold FL
  rw [hk]
  simp only [flF, if_neg h]
  rw [flF_fuel ha hm k _ _ (by rw [List.length_drop]; omega) (Nat.le_refl _)]
theorem FL_len {age : Int} {many : Nat} (ha : 0 ≤ age) (hm : 1 ≤ many) : ∀ (n : Nat) (ys : List Int), ys.length ≤ n → (FL age many ys).length ≤ ys.length
  | 0, ys, h => by
    obtain rfl : ys = [] := List.eq_nil_of_length_eq_zero (by omega)
    simp [FL_nil]
  | n + 1, ys, h => by
    by_cases e : ys = []
    · subst e; simp [FL_nil]
    · have hp := nL_pos (age := age) (many := many) e ha hm
      have hl := (nL_le age many ys).2
      rw [FL_next e ha hm, List.length_cons]
      have := FL_len ha hm n (ys.drop (nL age many ys)) (by rw [List.length_drop]; omega)
      rw [List.length_drop] at this
      omega
def okT (xs : List Int) : Bool := decide (xs.length ≤ 12) && allR xs 0 1000 && ascB xs
def flOK (xs : List Int) (age many : Int) : Bool := okT xs && inR age 0 100 && inR many 1 12
def flV (xs : List Int) (age many : Int) : List Int := if flOK xs age many then FL age many.toNat xs else []
theorem flV_no {xs : List Int} {age many : Int} (h : flOK xs age many = false) : flV xs age many = [] := by simp [flV, h]
theorem fl_in {xs : List Int} {age many : Int} (h : flOK xs age many = true) : xs.length ≤ 12 ∧ allR xs 0 1000 = true ∧ ascB xs = true ∧ inR age 0 100 = true ∧ inR many 1 12 = true := by
  simp [flOK, okT] at h
  exact ⟨h.1.1.1.1, h.1.1.1.2, h.1.1.2, h.1.2, h.2⟩
theorem flV_le (xs : List Int) (age many : Int) : (flV xs age many).length ≤ 12 := by
  rcases h : flOK xs age many with _ | _
  · simp [flV, h]
  · obtain ⟨h1, _, _, h4, h5⟩ := fl_in h
    have a4 := inR_iff.1 h4
    have a5 := inR_iff.1 h5
    simp only [flV, h, if_true]
    have := FL_len (age := age) (many := many.toNat) (by omega) (by omega) _ xs (Nat.le_refl _)
    omega
end Go.Proofs.Ytokajigaicdffaa
