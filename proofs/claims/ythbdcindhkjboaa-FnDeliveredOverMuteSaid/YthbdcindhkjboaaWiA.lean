/-
  Contracts of the program's sets of bits, its validator of windows, and what reads a window.
-/
import Derived.Test.YthbdcindhkjboaaWiM
import Derived.Test.YthbdcindhkjboaaOwn
namespace Go.Proofs.Ythbdcindhkjboaa
open Go.RowKit

theorem IS.nat {w : World} {A : Option Addr} {n c : Nat} {xs : List Int} (h : IS w A n c xs) : n ≤ 9223372036854775807 := h.cap
theorem or8 : ∀ s : Fin 256, ∀ p : Fin 8, bits .or .u8 (s.val : Int) (2 ^ p.val % 256) = ((s.val ||| 2 ^ p.val : Nat) : Int) := by decide +kernel
theorem has8 : ∀ s : Fin 256, ∀ p : Fin 8, (bits .and .u8 ((s.val : Int) / 2 ^ p.val) 1 == 1) = s.val.testBit p.val := by decide +kernel
/-- How many bits a set has. -/
def popc (s : Nat) : Nat := (selL (fun m => s.testBit m.toNat) 0 8).length
theorem winV_facts {b nx : Int} {xs : List Int} (h : winV b nx xs = true) : 0 ≤ b ∧ b ≤ 1000 ∧ b ≤ nx ∧ nx ≤ b + 8 ∧ okA b nx xs = true := by
  simp only [winV, Bool.and_eq_true, inR_iff] at h
  exact ⟨h.1.1, h.1.2, h.2.1.1, h.2.1.2, h.2.2⟩
end Go.Proofs.Ythbdcindhkjboaa
