/-
  PassAll of the program and of the model. (Its words were written by a program of my own.)
-/
import Derived.Test.YtijdfoggppmbaaaBk
import Derived.Test.YtijdfoggppmbaaaFlB
namespace Go.Proofs.Ytijdfoggppmbaaa
open Go.RowKit

def szOK (xs : List Int) : Bool := decide (xs.length ≤ 12) && allR xs 1 20
def vpOK (t : Int) (xs ys : List Int) : Bool := szOK xs && decide (ys.length = xs.length) && allR ys t 1000 && ascB ys
theorem paOK_vp {s r l t : Int} {xs ys : List Int} (hv : bkV s r l t = true) : paOK s r l t xs ys = vpOK t xs ys := by
  rw [Bool.eq_iff_iff]
  simp only [paOK, vpOK, szOK, hv, Bool.true_and, Bool.and_eq_true, decide_eq_true_eq]
  constructor
  · rintro ⟨⟨⟨⟨a, b⟩, c⟩, d⟩, e⟩; exact ⟨⟨⟨⟨b, c⟩, a.symm⟩, d⟩, e⟩
  · rintro ⟨⟨⟨⟨b, c⟩, a⟩, d⟩, e⟩; exact ⟨⟨⟨⟨a.symm, b⟩, c⟩, d⟩, e⟩
theorem tk_no {P : Program} {f : FuncId} {args : Array Value} {w : World} {R : World → Prop} {s r l t x now : Int}
    (h : Calls P f args w fun e w' => e = .returned (.tuple #[.agg #[.int .i64 (tkS s r l t x now), .int .i64 (tkR s r l t x now), .int .i64 (tkL s r l t x now), .int .i64 (tkT s r l t x now)], .bool (tkOK s r l t x now)]) ∧ R w') (ho : tkOK s r l t x now = false) :
    Calls P f args w fun e w' => e = .returned (.tuple #[.agg #[.int .i64 0, .int .i64 0, .int .i64 0, .int .i64 0], .bool false]) ∧ R w' := by
  simpa [tkS, tkR, tkL, tkT, ho] using h
theorem tk_yes {P : Program} {f : FuncId} {args : Array Value} {w : World} {R : World → Prop} {s r l t x now v : Int}
    (h : Calls P f args w fun e w' => e = .returned (.tuple #[.agg #[.int .i64 (tkS s r l t x now), .int .i64 (tkR s r l t x now), .int .i64 (tkL s r l t x now), .int .i64 (tkT s r l t x now)], .bool (tkOK s r l t x now)]) ∧ R w') (ho : tkOK s r l t x now = true) (hv : lvV s r l t now - x = v) :
    Calls P f args w fun e w' => e = .returned (.tuple #[.agg #[.int .i64 s, .int .i64 r, .int .i64 v, .int .i64 now], .bool true]) ∧ R w' := by
  subst hv
  simpa [tkS, tkR, tkL, tkT, ho] using h
theorem disj_bk {g : Nat} {A : Option Addr} {B : Nat} (h : g < B) (k : Ge A B) : Disj (some ⟨g, 0, none⟩) A := fun p q hp hq e => by
  cases hp
  have := k q hq
  have e' : g = q.block := e
  omega
theorem row_bk {w w' : World} {A : Option Addr} {n c : Nat} (h : w.grownBy w' (Value.slice A n c).ownBlock) : Row w w' A := by
  unfold Row
  rwa [← own_map]
end Go.Proofs.Ytijdfoggppmbaaa
