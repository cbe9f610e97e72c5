/-
  The contracts of leaving, with names for what they hand back.
-/
import Derived.Test.YthemfejahohbeaaPoM
import Derived.Test.YthemfejahohbeaaPoT
import Derived.Test.YthemfejahohbeaaQuL
import Derived.Test.YthemfejahohbeaaDrawP
import Derived.Test.YthemfejahohbeaaQuZ
namespace Go.Proofs.Ythemfejahohbeaa
open Go.RowKit

theorem pop_at {P : Program} {f : FuncId} {args : Array Value} {T TI : Nat} {w : World} {xs : List Tr} {sh db : List Int} {t : Int} {y : Tr} {ys : List Tr} {sh2 db2 : List Int} {t2 : Int} {ok : Bool}
    (h : Calls P f args w (GavePop T TI w (popX xs sh db t) (popL xs sh db t) (popH xs sh db t) (popD xs sh db t) (popT xs sh db t) (popOK xs sh db t)))
    (e1 : popX xs sh db t = y) (e2 : popL xs sh db t = ys) (e3 : popH xs sh db t = sh2) (e4 : popD xs sh db t = db2) (e5 : popT xs sh db t = t2) (e6 : popOK xs sh db t = ok) :
    Calls P f args w (GavePop T TI w y ys sh2 db2 t2 ok) := by
  subst e1 e2 e3 e4 e5 e6
  exact h
end Go.Proofs.Ythemfejahohbeaa
