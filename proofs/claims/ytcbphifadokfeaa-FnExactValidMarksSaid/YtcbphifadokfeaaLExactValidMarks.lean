/-
  The law FnExactValidMarks: its walk. (Written by a program of my own off the law's operations.)
-/
/-
-- CALL: i0 i1 i2 i3 W
-/
import Derived.Test.YtcbphifadokfeaaMk
import Derived.Deep.RegionHeld3
import Derived.Deep.DrawnRows
import Derived.Deep.DeepMust
import Derived.Deep.DeepCutAuto
namespace Go.Proofs.Ytcbphifadokfeaa
open Go.RowKit
attribute [local go_sem ↓] Go.wp_at_zero Go.wp_at_succ
set_option maxRecDepth 100000 in
set_option maxHeartbeats 8000000 in
theorem walk_FnExactValidMarks  (x0 : Int) (x1 : Int) (x2 : Int) (x3 : Int) (w : World)  :
    Calls Try.prog 3 #[.agg #[.int .i64 x0, .int .i64 x1, .int .i64 x2, .int .i64 x3]] w fun e w' => e = .returned (.bool true) ∧ Below w.heap.size w w' := by
  have RB0 : Hid (Below w.heap.size w w) := Lib.hid (Below.refl _ _)
  go_enter Try.func3, Try.ntmps3
  go_wp2_with (fail)
  refine (laws_toMarks_any _ _ _ _ _).mono ?_
  rintro e w1 ⟨rfl, hb1⟩
  have HB1 := Lib.hid hb1
  clear hb1
  have RB1 := Lib.hid (Below.trans (RB0.out.alloc (by have := RB0.out.size; first | omega | (simp; done) | (simp; omega)) _) (HB1.out.mono (by have := RB0.out.size; first | omega | (simp; done) | (simp; omega))))
  have hz1 := HB1.out.size
  simp at hz1
  go_wp2_with (fail)
  refine (spec_ValidMarks_any _ _ _ _ _).mono ?_
  rintro e w2 ⟨rfl, hb2⟩
  have HB2 := Lib.hid hb2
  clear hb2
  have RB2 := Lib.hid (Below.trans RB1.out (HB2.out.mono RB1.out.size))
  have hz2 := HB2.out.size
  have K1 := Lib.hid (((Blk.new w 23 #[.int .i64 x0, .int .i64 x1, .int .i64 x2, .int .i64 x3]).on HB1.out).on HB2.out)
  obtain ⟨k1_0, k1_1, k1_2, k1_3⟩ := K1.out.c4
  have k1_lt := K1.out.lt
  go_wp2_with (fail)
  refine (laws_toMarks_any _ _ _ _ _).mono ?_
  clear k1_0 k1_1 k1_2 k1_3 k1_lt
  rintro e w3 ⟨rfl, hb3⟩
  have HB3 := Lib.hid hb3
  clear hb3
  have RB3 := Lib.hid (Below.trans RB2.out (HB3.out.mono RB2.out.size))
  have hz3 := HB3.out.size
  go_wp2_with (fail)
  refine (impl_ValidMarks_any _ _ _ _ _).mono ?_
  rintro e w4 ⟨rfl, hb4⟩
  have HB4 := Lib.hid hb4
  clear hb4
  have RB4 := Lib.hid (Below.trans RB3.out (HB4.out.mono RB3.out.size))
  have hz4 := HB4.out.size
  go_wp2_with (fail)
  go_ret
  exact ⟨rfl, RB4.out⟩
end Go.Proofs.Ytcbphifadokfeaa
