/-
  Contracts of the laws' sum, and of the comparison of budgets.
-/
import Derived.Test.YtcbphifadokfeaaBudC
namespace Go.Proofs.Ytcbphifadokfeaa
open Go.RowKit
set_option maxHeartbeats 1000000 in
theorem laws_equalBudget_same {A A' B B' : Option Addr} {n c n' c' m d m' d' : Nat} {ks us : List Int} (t : Int) (w : World) (h1 : IS w A n c ks) (h2 : IS w A' n' c' us) (h3 : IS w B m d ks) (h4 : IS w B' m' d' us) :
    Calls Try.prog 22 #[.agg #[.int .i64 t, .slice A n c, .slice A' n' c'], .agg #[.int .i64 t, .slice B m d, .slice B' m' d']] w fun e w' => e = .returned (.bool true) ∧ Below w.heap.size w w' := by
  have H1 := Lib.hid ((h1.alloc (.cells #[.int .i64 t, .slice A n c, .slice A' n' c'] 33)).alloc (.cells #[.int .i64 t, .slice B m d, .slice B' m' d'] 33))
  have H2 := Lib.hid ((h2.alloc (.cells #[.int .i64 t, .slice A n c, .slice A' n' c'] 33)).alloc (.cells #[.int .i64 t, .slice B m d, .slice B' m' d'] 33))
  have H3 := Lib.hid ((h3.alloc (.cells #[.int .i64 t, .slice A n c, .slice A' n' c'] 33)).alloc (.cells #[.int .i64 t, .slice B m d, .slice B' m' d'] 33))
  have H4 := Lib.hid ((h4.alloc (.cells #[.int .i64 t, .slice A n c, .slice A' n' c'] 33)).alloc (.cells #[.int .i64 t, .slice B m d, .slice B' m' d'] 33))
  clear h1 h2 h3 h4
  have e1 : (t == t) = true := by simp
  have hb2 : Below w.heap.size w ((w.alloc (.cells #[.int .i64 t, .slice A n c, .slice A' n' c'] 33)).alloc (.cells #[.int .i64 t, .slice B m d, .slice B' m' d'] 33)) := ((Below.refl _ _).alloc (Nat.le_refl _) _).alloc (by simp) _
  have HB := Lib.hid hb2
  clear hb2
  go_enter Try.func22, Try.ntmps22
  go_wp2_with (fail)
  refine (call_b (laws_equalInts_any _ H1.out H3.out) (decide_eq_true rfl)).mono ?_
  rintro e w' ⟨rfl, m1, rfl⟩
  go_wp2_with (fail)
  refine (call_b (laws_equalInts_any _ (H2.out.drewN m1) (H4.out.drewN m1)) (decide_eq_true rfl)).mono ?_
  rintro e w' ⟨rfl, m2, rfl⟩
  go_wp2_with (fail)
  go_ret
  exact ⟨rfl, by first | exact below_drewN HB.out _ | exact below_drewN (below_drewN HB.out _) _⟩
end Go.Proofs.Ytcbphifadokfeaa
