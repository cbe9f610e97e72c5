/-
  Drawn entries and a class: anyEntries, DrawValidEntries, DrawVictimFor, DrawCanShed.
-/
import Derived.Test.YtmlnaijpbfddaaaGenQ
import Derived.Deep.RegionHeld3
import Derived.Deep.DeepMust
namespace Go.Proofs.Ytmlnaijpbfddaaa
open Go.RowKit

/-- Drawn entries. -/
def DrewEnts (w : World) (e : Ending) (w' : World) : Prop :=
  ∃ (xs : List Tr) (A1 : Option Addr) (n1 c1 : Nat), e = .returned (.slice A1 n1 c1) ∧ n1 ≤ 11 ∧ TS w' A1 n1 c1 xs ∧ Below w.heap.size w w'
/-- Drawn entries and a class. -/
def DrewEC (w : World) (e : Ending) (w' : World) : Prop :=
  ∃ (xs : List Tr) (A1 : Option Addr) (n1 c1 : Nat) (a : Int), e = .returned (.tuple #[.slice A1 n1 c1, .int .i64 a]) ∧ n1 ≤ 11 ∧ (-1 ≤ a ∧ a ≤ 3) ∧ TS w' A1 n1 c1 xs ∧ Below w.heap.size w w'
end Go.Proofs.Ytmlnaijpbfddaaa
