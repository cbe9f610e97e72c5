/-
  Contracts of the program's functions that make windows: windowOf, OpenBatches, LostBatches.
-/
import Derived.Test.YthbdcindhkjboaaWiA
import Derived.Deep.DeepMust
namespace Go.Proofs.Ythbdcindhkjboaa
open Go.RowKit

theorem OW.nil (w : World) (T base : Nat) : OW w T base none 0 0 [] := ⟨rfl, .inl ⟨rfl, rfl⟩⟩
theorem call_bool {P : Program} {f : FuncId} {args : Array Value} {w : World} {b b' : Bool} {R : World → Prop} (h : Calls P f args w fun e w' => e = .returned (.bool b) ∧ R w') (hb : b = b') :
    Calls P f args w fun e w' => e = .returned (.bool b') ∧ R w' := by subst hb; exact h
/-- The bits of a set, from b on. -/
def bitP (s : Nat) (b : Int) : Int → Bool := fun n => s.testBit (n - b).toNat
theorem bitP_at (s : Nat) (b : Int) (j : Nat) : bitP s b (b + (j : Int)) = s.testBit j := by
  unfold bitP
  congr 1
  omega
/-- The open batches of a window. -/
def opP (xs : List Int) : Int → Bool := fun n => !xs.contains n
def openL (b nx : Int) (xs : List Int) : List Int := if winV b nx xs then selL (opP xs) b (nx - b).toNat else []
theorem openL_f {b nx : Int} {xs : List Int} (h : winV b nx xs = false) : openL b nx xs = [] := by simp [openL, h]
theorem openL_t {b nx : Int} {xs : List Int} (h : winV b nx xs = true) : openL b nx xs = selL (opP xs) b (nx - b).toNat := by simp [openL, h]
theorem openL_le (b nx : Int) (xs : List Int) : (openL b nx xs).length ≤ 8 := by
  rcases h : winV b nx xs with _ | _
  · rw [openL_f h]; simp
  · rw [openL_t h]
    have h1 := selL_len (opP xs) b (nx - b).toNat
    obtain ⟨_, _, _, h2, _⟩ := winV_facts h
    omega
theorem win_bit {b nx : Int} {xs : List Int} (h : winV b nx xs = true) (j : Nat) : (bitsL b xs).testBit j = xs.contains (b + (j : Int)) :=
  bitsL_test (fun x hx => by have := okA_mem (winV_facts h).2.2.2.2 x hx; omega) j
theorem win_lt {b nx : Int} {xs : List Int} (h : winV b nx xs = true) : bitsL b xs < 256 :=
  bitsL_lt fun x hx => by have := okA_mem (winV_facts h).2.2.2.2 x hx; have := winV_facts h; omega
end Go.Proofs.Ythbdcindhkjboaa
