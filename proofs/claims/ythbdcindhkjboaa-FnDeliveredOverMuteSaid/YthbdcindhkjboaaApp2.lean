/-
  A guard of calls, for regions that draw their order.
-/
import Derived.Test.YthbdcindhkjboaaApp
namespace Go.Proofs.Ythbdcindhkjboaa
/-- A guard: the operation is a call of function f. -/
theorem step_is {P : Program} {ops : Array Oper} {o : Oper} {a : Act} {w : World} {K : Act → World → Prop} {Q : Exit → Act → World → Prop} {E : Prop} (f : Nat) (ags : Array Operand) (ts : Array TypeId)
    (_ : o.op = Op.call { callee := Callee.value (Operand.func f), args := ags, argTypes := ts })
    (h : if Region.wanted o (yielded ops a.tmps) = true then Oper.wp P o a w K Q else E) : if Region.wanted o (yielded ops a.tmps) = true then Oper.wp P o a w K Q else E := h
end Go.Proofs.Ythbdcindhkjboaa
