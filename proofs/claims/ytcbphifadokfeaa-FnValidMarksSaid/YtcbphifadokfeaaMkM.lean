/-
  Mathematics of health.
-/
import Derived.Test.YtcbphifadokfeaaOwn
import Derived.KernelRfl
namespace Go.Proofs.Ytcbphifadokfeaa
open Go.RowKit

def mkV (a b c d : Int) : Bool := inR a 0 99 && inR b (a + 1) 100 && inR c b 100 && inR d (c + 1) 101
theorem mkV_in {a b c d : Int} (h : mkV a b c d = true) : 0 ≤ a ∧ a < b ∧ b ≤ c ∧ c < d ∧ d ≤ 101 := by
  simp only [mkV, Bool.and_eq_true, inR_iff] at h
  omega
theorem mkV_of {a b c d : Int} (h : 0 ≤ a ∧ a < b ∧ b ≤ c ∧ c < d ∧ d ≤ 101) : mkV a b c d = true := by
  simp only [mkV, Bool.and_eq_true, inR_iff]
  omega
/-- The next health. -/
def nhN (a b c d h x : Int) : Int := if d ≤ x ∨ (h = 2 ∧ c ≤ x) then 2 else if b ≤ x ∨ (h ≠ 0 ∧ a ≤ x) then 1 else 0
theorem nhN_bd (a b c d h x : Int) : 0 ≤ nhN a b c d h x ∧ nhN a b c d h x ≤ 2 := by
  unfold nhN
  split
  · omega
  · split <;> omega
def nhV (a b c d h x : Int) : Int := if mkV a b c d && inR h 0 2 && inR x 0 100 then nhN a b c d h x else -1
theorem nhV_t {a b c d h x : Int} (hv : mkV a b c d = true) (hh : inR h 0 2 = true) (hx : inR x 0 100 = true) : nhV a b c d h x = nhN a b c d h x := by simp [nhV, hv, hh, hx]
theorem nhV_bd (a b c d h x : Int) : -1 ≤ nhV a b c d h x ∧ nhV a b c d h x ≤ 2 := by
  unfold nhV
  have := nhN_bd a b c d h x
  split <;> omega
/-- How many marks a load has reached, of the first k ones. -/
def bnN (a b c d x : Int) : Nat → Int
  | 0 => 0
  | 1 => if a ≤ x then 1 else 0
  | 2 => (if a ≤ x then 1 else 0) + if b ≤ x then 1 else 0
  | 3 => (if a ≤ x then 1 else 0) + (if b ≤ x then 1 else 0) + if c ≤ x then 1 else 0
  | _ => (if a ≤ x then 1 else 0) + (if b ≤ x then 1 else 0) + (if c ≤ x then 1 else 0) + if d ≤ x then 1 else 0
/-- The health after each of the first k loads. -/
def hpH (a b c d : Int) (xs : List Int) : Nat → Int
  | 0 => 0
  | k + 1 => nhN a b c d (hpH a b c d xs k) (xs.getD k 0)
theorem hpH_bd (a b c d : Int) (xs : List Int) (k : Nat) : 0 ≤ hpH a b c d xs k ∧ hpH a b c d xs k ≤ 2 := by
  cases k with
  | zero => simp [hpH]
  | succ k => exact nhN_bd _ _ _ _ _ _
def hpN (a b c d : Int) (xs : List Int) (n : Nat) : List Int := (List.range n).map fun k => hpH a b c d xs (k + 1)
theorem hpN_len (a b c d : Int) (xs : List Int) (n : Nat) : (hpN a b c d xs n).length = n := by simp [hpN]
theorem hpN_succ (a b c d : Int) (xs : List Int) (n : Nat) : hpN a b c d xs (n + 1) = hpN a b c d xs n ++ [hpH a b c d xs (n + 1)] := by simp [hpN, List.range_succ]
theorem hpN_at {a b c d : Int} {xs : List Int} {n k : Nat} (hk : k < n) : (hpN a b c d xs n)[k]? = some (hpH a b c d xs (k + 1)) := by simp [hpN, hk]
def hpOK (a b c d : Int) (xs : List Int) : Bool := mkV a b c d && decide (xs.length ≤ 12) && allR xs 0 100
theorem hpOK_in {a b c d : Int} {xs : List Int} (h : hpOK a b c d xs = true) : mkV a b c d = true ∧ xs.length ≤ 12 ∧ allR xs 0 100 = true := by simpa [hpOK, and_assoc] using h
def hpL (a b c d : Int) (xs : List Int) : List Int := if hpOK a b c d xs then hpN a b c d xs xs.length else []
theorem hpL_t {a b c d : Int} {xs : List Int} (h : hpOK a b c d xs = true) : hpL a b c d xs = hpN a b c d xs xs.length := by simp [hpL, h]
theorem hpL_f {a b c d : Int} {xs : List Int} (h : hpOK a b c d xs = false) : hpL a b c d xs = [] := by simp [hpL, h]
theorem hpL_le (a b c d : Int) (xs : List Int) : (hpL a b c d xs).length ≤ 12 := by
  rcases h : hpOK a b c d xs with _ | _
  · simp [hpL_f h]
  · rw [hpL_t h, hpN_len]; exact (hpOK_in h).2.1
/-- How often the health changes, over the first k loads. -/
def ctN (a b c d : Int) (xs : List Int) : Nat → Int
  | 0 => 0
  | k + 1 => ctN a b c d xs k + if hpH a b c d xs (k + 1) = hpH a b c d xs k then 0 else 1
theorem ctN_bd (a b c d : Int) (xs : List Int) (k : Nat) : 0 ≤ ctN a b c d xs k ∧ ctN a b c d xs k ≤ (k : Int) := by
  induction k with
  | zero => simp [ctN]
  | succ k ih => simp only [ctN]; split <;> omega
def ctV (a b c d : Int) (xs : List Int) : Int := if hpOK a b c d xs then ctN a b c d xs xs.length else -1
theorem hp_getD {xs : List Int} {k : Nat} {v : Int} (h : xs[k]? = some v) : xs.getD k 0 = v := by
  rw [List.getD_eq_getElem?_getD, h]; rfl
end Go.Proofs.Ytcbphifadokfeaa
