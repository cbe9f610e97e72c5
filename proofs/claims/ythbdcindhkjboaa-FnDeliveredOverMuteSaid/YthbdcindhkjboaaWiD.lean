/-
  LostBatches of the program.
-/
import Derived.Test.YthbdcindhkjboaaWiC
namespace Go.Proofs.Ythbdcindhkjboaa
open Go.RowKit

/-- How many numbers are greater than one. -/
def cntG (xs : List Int) (n : Int) : Int := ((xs.filter fun x => decide (n < x)).length : Int)
/-- A batch is held to be lost. -/
def lostP (xs : List Int) (many : Int) : Int → Bool := fun n => !xs.contains n && decide (many ≤ cntG xs n)
def lostOK (b nx : Int) (xs : List Int) (many : Int) : Bool := winV b nx xs && inR many 1 8
def lostL (b nx : Int) (xs : List Int) (many : Int) : List Int := if lostOK b nx xs many then selL (lostP xs many) b (nx - b).toNat else []
theorem lostL_f {b nx many : Int} {xs : List Int} (h : lostOK b nx xs many = false) : lostL b nx xs many = [] := by simp [lostL, h]
theorem lostL_t {b nx many : Int} {xs : List Int} (h : lostOK b nx xs many = true) : lostL b nx xs many = selL (lostP xs many) b (nx - b).toNat := by simp [lostL, h]
theorem lostL_le (b nx : Int) (xs : List Int) (many : Int) : (lostL b nx xs many).length ≤ 8 := by
  rcases h : lostOK b nx xs many with _ | _
  · rw [lostL_f h]; simp
  · rw [lostL_t h]
    have h1 := selL_len (lostP xs many) b (nx - b).toNat
    simp only [lostOK, Bool.and_eq_true] at h
    obtain ⟨_, _, _, h2, _⟩ := winV_facts h.1
    omega
theorem selL_append (P : Int → Bool) (b : Int) (i j : Nat) : selL P b (i + j) = selL P b i ++ selL P (b + (i : Int)) j := by
  induction i generalizing b with
  | zero => simp [selL]
  | succ i ih =>
    have e : i + 1 + j = (i + j) + 1 := by omega
    have e2 : b + 1 + (i : Int) = b + ((i + 1 : Nat) : Int) := by omega
    rw [e, selL, ih, selL, e2]
    split <;> simp
theorem selL_shift (P : Int → Bool) (b d : Int) (k : Nat) : (selL (fun n => P (n + d)) b k).length = (selL P (b + d) k).length := by
  induction k generalizing b with
  | zero => rfl
  | succ k ih =>
    have e : b + d + 1 = b + 1 + d := by omega
    simp only [selL]
    rw [e]
    split <;> simp [ih]
theorem popc_bd (s : Nat) : popc s ≤ 8 := selL_len _ _ _
theorem popc_win {b nx : Int} {xs : List Int} (h : winV b nx xs = true) (p : Nat) : (popc (bitsL b xs >>> (p + 1)) : Int) = cntG xs (b + (p : Int)) := by
  unfold popc cntG
  have h0 : selL (fun m => (bitsL b xs >>> (p + 1)).testBit m.toNat) 0 8 = selL (fun m => (fun n => xs.contains n) (m + (b + (p : Int) + 1))) 0 8 := by
    apply selL_congr
    intro n h1 _
    obtain ⟨i, rfl⟩ : ∃ i : Nat, n = (i : Int) := ⟨n.toNat, by omega⟩
    rw [Nat.testBit_shiftRight, Int.toNat_natCast, win_bit h]
    have e : b + ((p + 1 + i : Nat) : Int) = (i : Int) + (b + (p : Int) + 1) := by omega
    rw [e]
  rw [h0, selL_shift]
  obtain ⟨_, _, _, h2, h3⟩ := winV_facts h
  have h4 := selL_win (k := p + 1 + 8) h3 (by omega)
  have h5 : (xs.filter fun x => decide (b + (p : Int) < x)) = selL (fun n => xs.contains n && decide (b + (p : Int) < n)) (b + ((p + 1 : Nat) : Int)) 8 := by
    conv => lhs; rw [← h4]
    rw [selL_append, List.filter_append, selL_filter, selL_filter, selL_none (b := b) (k := p + 1), List.nil_append]
    intro n _ h6
    simp
    omega
  rw [h5]
  congr 1
  have e : (0 : Int) + (b + (p : Int) + 1) = b + ((p + 1 : Nat) : Int) := by omega
  rw [e]
  congr 1
  apply selL_congr
  intro n h6 _
  rw [decide_eq_true (by omega), Bool.and_true]
theorem filter_yes {L : List Int} {k : Nat} {v : Int} {Q : Int → Bool} (hx : L[k]? = some v) (h : Q v = true) : (L.take (k + 1)).filter Q = (L.take k).filter Q ++ [v] := by
  have hk : k < L.length := (List.getElem?_eq_some_iff.1 hx).1
  have e : L[k] = v := (List.getElem?_eq_some_iff.1 hx).2
  rw [List.take_succ_eq_append_getElem hk, List.filter_append, e]
  simp [h]
theorem filter_no {L : List Int} {k : Nat} {v : Int} {Q : Int → Bool} (hx : L[k]? = some v) (h : Q v = false) : (L.take (k + 1)).filter Q = (L.take k).filter Q := by
  have hk : k < L.length := (List.getElem?_eq_some_iff.1 hx).1
  have e : L[k] = v := (List.getElem?_eq_some_iff.1 hx).2
  rw [List.take_succ_eq_append_getElem hk, List.filter_append, e]
  simp [h]
end Go.Proofs.Ythbdcindhkjboaa
