/-
  Two items that are alike, as the law's own comparison sees them.
-/
import Derived.Test.YtehbkfgcbeldiaaRead
namespace Go.Proofs.Ytehbkfgcbeldiaa
open Go.RowKit

theorem laws_equalItem_rf {A A' : Option Addr} {n c n' c' : Nat} {xs : List Int} (cl ky : Int) (w : World) (h : IS w A n c xs) (h' : IS w A' n' c' xs) :
    Calls Try.prog 7 #[.agg #[.int .i64 cl, .int .i64 ky, .slice A n c], .agg #[.int .i64 cl, .int .i64 ky, .slice A' n' c']] w fun e w' =>
      e = .returned (.bool true) ∧ Below w.heap.size w w' := by
  have H := Lib.hid h
  have H' := Lib.hid h'
  clear h h'
  have hb2 : ∀ (a b : Obj), Below w.heap.size w ((w.alloc a).alloc b) := fun a b => ((Below.refl _ _).alloc (Nat.le_refl _) a).alloc (by simp) b
  have e1 : (cl == cl) = true := by simp
  have e2 : (ky == ky) = true := by simp
  go_enter Try.func7, Try.ntmps7
  go_wp2_with (go_at_call 8; refine (laws_equalInts_any _ ((H.out.alloc _).alloc _) ((H'.out.alloc _).alloc _)).mono ?_; rintro e w' ⟨rfl, m, rfl⟩)
  go_ret
  exact ⟨ret_bool (by simp), below_drewN (hb2 _ _) _⟩
end Go.Proofs.Ytehbkfgcbeldiaa
