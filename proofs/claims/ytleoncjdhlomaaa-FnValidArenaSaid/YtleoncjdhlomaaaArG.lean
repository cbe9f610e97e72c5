/-
  Contracts of arenas: the gaps.
-/
import Derived.Test.YtleoncjdhlomaaaArU
import Derived.Test.YtleoncjdhlomaaaPr
import Derived.Lib.MinMax
namespace Go.Proofs.Ytleoncjdhlomaaa
open Go.RowKit
theorem infoGap : (Try.prog.info? 59).map (fun i => (i.zero, i.size, i.bytes)) = some (some (.agg #[.int .i64 0, .int .i64 0]), 2, 16) := by kernel_rfl
theorem info1Blk : True := trivial
/-- The gaps before the first blocks. -/
def gapsK (xs : List Tr) (k : Nat) : List (Int × Int) := (List.range k).map fun i => (endT (xs.take i), (xs.getD i default).b - endT (xs.take i))
theorem gapsK_next {xs : List Tr} {k : Nat} {x : Tr} (h : xs[k]? = some x) : gapsK xs (k + 1) = gapsK xs k ++ [(endT (xs.take k), x.b - endT (xs.take k))] := by
  have hx : xs.getD k default = x := by rw [List.getD_eq_getElem?_getD, h]; rfl
  simp [gapsK, List.range_succ, ← hx]
/-- All gaps of an arena. -/
def gapsA (s : Int) (xs : List Tr) : List (Int × Int) := gapsK xs xs.length ++ [(endT xs, s - endT xs)]
/-- The greatest of the first gaps. -/
def mostP (L : List (Int × Int)) : Int := L.foldl (fun m g => max m g.2) 0
theorem mostP_next (L : List (Int × Int)) (g : Int × Int) : mostP (L ++ [g]) = max (mostP L) g.2 := by simp [mostP]
noncomputable def gapA (s : Int) (xs : List Tr) : Int := if validA s xs then mostP (gapsA s xs) else -1
theorem end_bd {s : Int} {xs : List Tr} (h : validA s xs = true) {k : Nat} (hk : k ≤ xs.length) : 0 ≤ endT (xs.take k) ∧ endT (xs.take k) ≤ 64 := by
  obtain ⟨h1, _, h3⟩ := validA_iff.1 h
  have := okPre_end (k := k) (fun j hj => h3 j (by omega)) hk h1.1
  omega
end Go.Proofs.Ytleoncjdhlomaaa
