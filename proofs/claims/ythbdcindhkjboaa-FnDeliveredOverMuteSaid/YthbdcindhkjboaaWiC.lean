/-
  Contracts of the program's functions that make windows: SendNext, AckBatch, LostBatches.
-/
import Derived.Test.YthbdcindhkjboaaWiB
import Derived.Deep.RegionHeld3
import Derived.Deep.RegionLaw
namespace Go.Proofs.Ythbdcindhkjboaa
open Go.RowKit

/-- A call has handed back a window, a number, and whether there is one. -/
def GaveSn (T : Nat) (w : World) (b nx : Int) (xs : List Int) (i : Int) (ok : Bool) (e : Ending) (w' : World) : Prop :=
  ∃ A n c, e = .returned (.tuple #[.agg #[.int .i64 b, .int .i64 nx, .slice A n c], .int .i64 i, .bool ok]) ∧ OW w' T w.heap.size A n c xs ∧ Below w.heap.size w w'
/-- A call has handed back a window, and whether there is one. -/
def GaveWB (T : Nat) (w : World) (b nx : Int) (xs : List Int) (ok : Bool) (e : Ending) (w' : World) : Prop :=
  ∃ A n c, e = .returned (.tuple #[.agg #[.int .i64 b, .int .i64 nx, .slice A n c], .bool ok]) ∧ OW w' T w.heap.size A n c xs ∧ Below w.heap.size w w'
def snOK (b nx : Int) (xs : List Int) : Bool := winV b nx xs && decide (nx < b + 8)
def snB (b nx : Int) (xs : List Int) : Int := if snOK b nx xs then b else 0
def snN (b nx : Int) (xs : List Int) : Int := if snOK b nx xs then nx + 1 else 0
def snI (b nx : Int) (xs : List Int) : Int := if snOK b nx xs then nx else -1
def snX (b nx : Int) (xs : List Int) : List Int := if snOK b nx xs then xs else []
theorem win_len {b nx : Int} {xs : List Int} (h : winV b nx xs = true) : xs.length ≤ 8 := by
  obtain ⟨_, _, h1, h2, h3⟩ := winV_facts h
  have e := selL_win (k := (nx - b).toNat) h3 (by omega)
  have := selL_len (fun n => xs.contains n) b (nx - b).toNat
  rw [e] at this
  omega
theorem snX_le (b nx : Int) (xs : List Int) : (snX b nx xs).length ≤ 8 := by
  unfold snX
  split
  · rename_i h
    simp only [snOK, Bool.and_eq_true] at h
    exact win_len h.1
  · simp
theorem selL_bits {b nx : Int} {xs : List Int} (h : winV b nx xs = true) {k : Nat} (hk : nx ≤ b + (k : Int)) : selL (bitP (bitsL b xs) b) b k = xs := by
  refine Eq.trans (selL_congr (Q := fun n => xs.contains n) fun n h1 _ => ?_) (selL_win (k := k) (winV_facts h).2.2.2.2 hk)
  obtain ⟨j, rfl⟩ : ∃ j : Nat, n = b + (j : Int) := ⟨(n - b).toNat, by omega⟩
  exact (bitP_at _ _ _).trans (win_bit h j)
def ackP (xs : List Int) (m : Int) : Int → Bool := fun n => decide (n = m) || xs.contains n
def akK (b nx : Int) : Nat := (nx - b).toNat
def akOK (b nx : Int) (xs : List Int) (m : Int) : Bool := winV b nx xs && (inR m 0 (nx - 1) && decide (upR (ackP xs m) b (akK b nx) ≤ 1000))
def akB (b nx : Int) (xs : List Int) (m : Int) : Int := if akOK b nx xs m then upR (ackP xs m) b (akK b nx) else 0
def akN (b nx : Int) (xs : List Int) (m : Int) : Int := if akOK b nx xs m then nx else 0
def akX (b nx : Int) (xs : List Int) (m : Int) : List Int := if akOK b nx xs m then (ackR (ackP xs m) b (akK b nx)).2 else []
theorem akX_le (b nx : Int) (xs : List Int) (m : Int) : (akX b nx xs m).length ≤ 8 := by
  unfold akX
  split
  · rename_i h
    simp only [akOK, Bool.and_eq_true] at h
    obtain ⟨_, _, h1, h2, _⟩ := winV_facts h.1
    rw [ackR_snd]
    have h3 := selL_len (ackP xs m) (upR (ackP xs m) b (akK b nx)) (b + (akK b nx : Int) - upR (ackP xs m) b (akK b nx)).toNat
    have h4 := upR_bd (ackP xs m) b (akK b nx)
    unfold akK at *
    omega
  · simp
theorem ackR_step {P : Int → Bool} {b : Int} {k : Nat} (h : P b = true) (hk : 0 < k) : ackR P b k = ackR P (b + 1) (k - 1) := by
  obtain ⟨m, rfl⟩ : ∃ m, k = m + 1 := ⟨k - 1, by omega⟩
  simp only [ackR, h, if_true, Nat.add_sub_cancel]
theorem ackR_stop {P : Int → Bool} {b : Int} {k : Nat} (h : P b = false) : ackR P b k = (b, selL P b k) := by
  cases k with
  | zero => rfl
  | succ k => simp [ackR, h]
theorem shr_bit (s j : Nat) : (s >>> j).testBit 0 = s.testBit j := by rw [Nat.testBit_shiftRight, Nat.add_zero]
theorem shr_lt {s : Nat} (j : Nat) (h : s < 256) : s >>> j < 256 := Nat.lt_of_le_of_lt (Nat.shiftRight_le s j) h
theorem bitP_shr (s j : Nat) (b : Int) (k : Nat) : selL (bitP (s >>> j) (b + (j : Int))) (b + (j : Int)) k = selL (bitP s b) (b + (j : Int)) k := by
  apply selL_congr
  intro n h1 _
  obtain ⟨i, rfl⟩ : ∃ i : Nat, n = b + (j : Int) + (i : Int) := ⟨(n - b - j).toNat, by omega⟩
  rw [bitP_at, Nat.testBit_shiftRight]
  have e : b + (j : Int) + (i : Int) = b + ((j + i : Nat) : Int) := by omega
  rw [e, bitP_at]
theorem ack_bit1 {b nx m : Int} {xs : List Int} (h : winV b nx xs = true) {p : Nat} (hm : m = b + (p : Int)) (j : Nat) : (bitsL b xs ||| 2 ^ p).testBit j = ackP xs m (b + (j : Int)) := by
  rw [Nat.testBit_or, win_bit h, Nat.testBit_two_pow, Bool.or_comm]
  unfold ackP
  congr 1
  apply decide_eq_decide.2
  omega
theorem ack_bit0 {b nx m : Int} {xs : List Int} (h : winV b nx xs = true) (hm : m < b) (j : Nat) : (bitsL b xs).testBit j = ackP xs m (b + (j : Int)) := by
  rw [win_bit h]
  unfold ackP
  rw [decide_eq_false (by omega), Bool.false_or]
theorem ackP_far {b nx m : Int} {xs : List Int} (h : winV b nx xs = true) (hm : m < nx) {n : Int} (hn : nx ≤ n) : ackP xs m n = false := by
  have h1 : ¬ n ∈ xs := fun hx => by have := okA_mem (winV_facts h).2.2.2.2 n hx; omega
  have h2 : ¬ n = m := by omega
  simp [ackP, h1, h2]
end Go.Proofs.Ythbdcindhkjboaa
