/-
  Mathematics of samples.
-/
import Derived.Test.YtbadgnekailnaaaOwn
import Derived.KernelRfl
namespace Go.Proofs.Ytbadgnekailnaaa
open Go.RowKit

/-- How a key is spread; whether a rate keeps it. -/
def spK (k : Int) : Int := (k * 29 + 7) % 256
theorem spK_bd (k : Int) : 0 ≤ spK k ∧ spK k ≤ 255 := by unfold spK; omega
def keepP (r k : Int) : Bool := decide (spK k % r = 0)
def keepV (k r : Int) : Bool := inR k 0 255 && inR r 1 16 && keepP r k
theorem i64_and255 {X : Int} (h0 : 0 ≤ X) (h1 : X ≤ 1000000) : bits BinOp.and IntKind.i64 X 255 = X % 256 := by
  obtain ⟨x, rfl⟩ := Int.eq_ofNat_of_zero_le h0
  have h2 : (BitVec.ofInt 64 (x : Int)).toNat = x := by
    rw [BitVec.ofInt_natCast, BitVec.toNat_ofNat]; exact Nat.mod_eq_of_lt (by omega)
  have h3 : (BitVec.ofInt 64 (255 : Int)).toNat = 255 := by decide
  show IntKind.i64.wrap ((BitVec.ofInt 64 (x : Int) &&& BitVec.ofInt 64 255).toNat : Int) = _
  rw [BitVec.toNat_and, h2, h3, IntKind.wrap_i64]
  have h4 : x &&& 255 = x % 256 := Nat.and_two_pow_sub_one_eq_mod x 8
  rw [h4]
  omega
/-- The keys that are kept. -/
def smL (r : Int) (xs : List Int) : List Int := xs.filter (keepP r)
theorem smL_len (r : Int) (xs : List Int) : (smL r xs).length ≤ xs.length := List.length_filter_le _ _
theorem smL_yes {r v : Int} {xs : List Int} {k : Nat} (h : xs[k]? = some v) (hv : keepP r v = true) : smL r (xs.take (k + 1)) = smL r (xs.take k) ++ [v] := by
  have hk : k < xs.length := (List.getElem?_eq_some_iff.1 h).1
  have e : xs[k] = v := (List.getElem?_eq_some_iff.1 h).2
  rw [List.take_succ_eq_append_getElem hk, e]
  simp [smL, hv]
theorem smL_no {r v : Int} {xs : List Int} {k : Nat} (h : xs[k]? = some v) (hv : keepP r v = false) : smL r (xs.take (k + 1)) = smL r (xs.take k) := by
  have hk : k < xs.length := (List.getElem?_eq_some_iff.1 h).1
  have e : xs[k] = v := (List.getElem?_eq_some_iff.1 h).2
  rw [List.take_succ_eq_append_getElem hk, e]
  simp [smL, hv]
def okK (xs : List Int) : Bool := decide (xs.length ≤ 16) && allR xs 0 255
theorem okK_in {xs : List Int} (h : okK xs = true) : xs.length ≤ 16 ∧ allR xs 0 255 = true := by simpa [okK] using h
def smOK (xs : List Int) (r : Int) : Bool := okK xs && inR r 1 16
theorem smOK_in {xs : List Int} {r : Int} (h : smOK xs r = true) : okK xs = true ∧ inR r 1 16 = true := by simpa [smOK] using h
def smV (xs : List Int) (r : Int) : List Int := if smOK xs r then smL r xs else []
theorem smV_t {xs : List Int} {r : Int} (h : smOK xs r = true) : smV xs r = smL r xs := by simp [smV, h]
theorem smV_f {xs : List Int} {r : Int} (h : smOK xs r = false) : smV xs r = [] := by simp [smV, h]
theorem smV_le (xs : List Int) (r : Int) : (smV xs r).length ≤ 16 := by
  rcases h : smOK xs r with _ | _
  · simp [smV_f h]
  · rw [smV_t h]
    have h1 := smL_len r xs
    have h2 := (okK_in (smOK_in h).1).1
    omega
def guV (kept r : Int) : Int := if inR kept 0 200 && inR r 1 16 then kept * r else -1
theorem mul_bd {a b m n : Int} (h0 : 0 ≤ a) (h1 : a ≤ m) (h2 : 0 ≤ b) (h3 : b ≤ n) : 0 ≤ a * b ∧ a * b ≤ m * n :=
  ⟨Int.mul_nonneg h0 h2, Int.mul_le_mul h1 h3 h2 (by omega)⟩
/-- The least rate. -/
def rfF (xs : List Int) (m : Nat) : Int := ((([1, 2, 4, 8, 16] : List Int).find? fun r => decide ((smL r xs).length ≤ m))).getD (-1)
def rfV (xs : List Int) (most : Int) : Int := if okK xs && inR most 0 16 then rfF xs most.toNat else -1
theorem rf_at {xs : List Int} {m j : Nat} (hj : j ≤ 4) (h : (smL ((2 : Int) ^ j) xs).length ≤ m) (hb : ∀ i, i < j → m < (smL ((2 : Int) ^ i) xs).length) : rfF xs m = (2 : Int) ^ j := by
  have g : ∀ i, i < j → decide ((smL ((2 : Int) ^ i) xs).length ≤ m) = false := fun i hi => by have := hb i hi; simp; omega
  have h' : decide ((smL ((2 : Int) ^ j) xs).length ≤ m) = true := by simpa using h
  unfold rfF
  obtain rfl | rfl | rfl | rfl | rfl : j = 0 ∨ j = 1 ∨ j = 2 ∨ j = 3 ∨ j = 4 := by omega
  · have h1 : decide ((smL 1 xs).length ≤ m) = true := h'
    simp [List.find?, h1]
  · have g0 : decide ((smL 1 xs).length ≤ m) = false := g 0 (by omega)
    have h1 : decide ((smL 2 xs).length ≤ m) = true := h'
    simp [List.find?, g0, h1]
  · have g0 : decide ((smL 1 xs).length ≤ m) = false := g 0 (by omega)
    have g1 : decide ((smL 2 xs).length ≤ m) = false := g 1 (by omega)
    have h1 : decide ((smL 4 xs).length ≤ m) = true := h'
    simp [List.find?, g0, g1, h1]
  · have g0 : decide ((smL 1 xs).length ≤ m) = false := g 0 (by omega)
    have g1 : decide ((smL 2 xs).length ≤ m) = false := g 1 (by omega)
    have g2 : decide ((smL 4 xs).length ≤ m) = false := g 2 (by omega)
    have h1 : decide ((smL 8 xs).length ≤ m) = true := h'
    simp [List.find?, g0, g1, g2, h1]
  · have g0 : decide ((smL 1 xs).length ≤ m) = false := g 0 (by omega)
    have g1 : decide ((smL 2 xs).length ≤ m) = false := g 1 (by omega)
    have g2 : decide ((smL 4 xs).length ≤ m) = false := g 2 (by omega)
    have g3 : decide ((smL 8 xs).length ≤ m) = false := g 3 (by omega)
    have h1 : decide ((smL 16 xs).length ≤ m) = true := h'
    simp [List.find?, g0, g1, g2, g3, h1]
theorem rf_none {xs : List Int} {m : Nat} (hb : ∀ i, i < 5 → m < (smL ((2 : Int) ^ i) xs).length) : rfF xs m = -1 := by
  have g : ∀ i, i < 5 → decide ((smL ((2 : Int) ^ i) xs).length ≤ m) = false := fun i hi => by have := hb i hi; simp; omega
  have g0 : decide ((smL 1 xs).length ≤ m) = false := g 0 (by omega)
  have g1 : decide ((smL 2 xs).length ≤ m) = false := g 1 (by omega)
  have g2 : decide ((smL 4 xs).length ≤ m) = false := g 2 (by omega)
  have g3 : decide ((smL 8 xs).length ≤ m) = false := g 3 (by omega)
  have g4 : decide ((smL 16 xs).length ≤ m) = false := g 4 (by omega)
  unfold rfF
  simp [List.find?, g0, g1, g2, g3, g4]
end Go.Proofs.Ytbadgnekailnaaa
