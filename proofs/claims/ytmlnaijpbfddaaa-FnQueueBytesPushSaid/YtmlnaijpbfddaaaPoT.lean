/-
  Names for lists that a call hands back.
-/
import Derived.Test.YtmlnaijpbfddaaaArW
namespace Go.Proofs.Ytmlnaijpbfddaaa
open Go.RowKit

theorem tri_at {P : Program} {f : FuncId} {args : Array Value} {T : Nat} {w : World} {l l' : List Tr} (h : Calls P f args w (GaveTri T w l)) (e : l = l') : Calls P f args w (GaveTri T w l') := e ▸ h
theorem ints_at {P : Program} {f : FuncId} {args : Array Value} {T : Nat} {w : World} {l l' : List Int} (h : Calls P f args w (GaveInts T w l)) (e : l = l') : Calls P f args w (GaveInts T w l') := e ▸ h
end Go.Proofs.Ytmlnaijpbfddaaa
