/-
  Contracts of entries and queues: bytes by classes.
-/
import Derived.Test.YtnhlbaldbjcjaaaQuB
import Derived.Deep.RegionHeld3
import Derived.RegionTactic
import Derived.ChangeAlike
namespace Go.Proofs.Ytnhlbaldbjcjaaa
open Go.RowKit
theorem bytesE_zero : bytesE [] = [0, 0, 0] := rfl
theorem bytesE_len (xs : List Tr) : (bytesE xs).length = 3 := rfl
theorem bytesE_get {xs : List Tr} {j : Nat} (hj : j < 3) : (bytesE xs)[j]? = some (bytesC xs (j : Int)) := by
  rcases (by omega : j = 0 ∨ j = 1 ∨ j = 2) with rfl | rfl | rfl <;> rfl
theorem bytesE_next {xs : List Tr} {k j : Nat} {x : Tr} (h : xs[k]? = some x) (hj : j < 3) (hx : x.b = (j : Int)) : (bytesE (xs.take k)).set j (bytesC (xs.take k) (j : Int) + x.c) = bytesE (xs.take (k + 1)) := by
  unfold bytesE
  simp only [bytesC_next h, hx]
  rcases (by omega : j = 0 ∨ j = 1 ∨ j = 2) with rfl | rfl | rfl <;> simp
theorem bytesE_bd {xs : List Tr} (h : ∀ x ∈ xs, 1 ≤ x.c ∧ x.c ≤ 20) (k : Nat) (hk : k ≤ 10) (c : Int) : 0 ≤ bytesC (xs.take k) c ∧ bytesC (xs.take k) c ≤ 200 := by
  have h1 := bytesC_bd (xs := xs.take k) (fun x hx => h x (List.mem_of_mem_take hx)) c
  have h2 := List.length_take_le k xs
  omega
end Go.Proofs.Ytnhlbaldbjcjaaa
