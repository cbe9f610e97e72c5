/-
  The law FnExactMeanOf: its walk. (Written by a program of my own off the law's operations.)
-/
/-
-- CALL: i0 W s0
-/
import Derived.Test.YtbingkkhhaknlaaSw
import Derived.Deep.RegionHeld3
import Derived.Deep.DrawnRows
import Derived.Deep.DeepMust
import Derived.Deep.DeepCutAuto
namespace Go.Proofs.Ytbingkkhhaknlaa
open Go.RowKit
attribute [local go_sem ↓] Go.wp_at_zero Go.wp_at_succ
set_option maxRecDepth 100000 in
set_option maxHeartbeats 8000000 in
theorem walk_FnExactMeanOf {A900 : Option Addr} {n900 c900 : Nat} {xs900 : List Su} (x0 : Int) (w : World) (h900 : SS w A900 n900 c900 xs900) :
    Calls Try.prog 4 #[.slice A900 n900 c900, .int .i64 x0] w fun e w' => e = .returned (.bool true) ∧ Below w.heap.size w w' := by
  have hcap900 := h900.cap
  have H900 := Lib.hid h900
  clear h900
  rcases Int.lt_or_le (1048576 : Int) (n900 : Int) with hs1 | hs1
  · have he1 := Lib.hid (szL_lo hs1)
    have RB0 : Hid (Below w.heap.size w w) := Lib.hid (Below.refl _ _)
    go_enter Try.func4, Try.ntmps4
    go_wp2_with (fail)
    refine (laws_szSumS_any _ _ hcap900 (by omega) (by omega)).mono ?_
    rintro e w' ⟨rfl, rfl⟩
    rw [he1.out]
    go_wp2_with (fail)
    go_ret
    exact ⟨rfl, RB0.out⟩
  have he1 := Lib.hid (szL_hi hs1)
  have hx1 : 0 ≤ (1048576 : Int) - (n900 : Int) := by omega
  have RB0 : Hid (Below w.heap.size w w) := Lib.hid (Below.refl _ _)
  go_enter Try.func4, Try.ntmps4
  go_wp2_with (fail)
  refine (laws_szSumS_any _ _ hcap900 (by omega) (by omega)).mono ?_
  rintro e w' ⟨rfl, rfl⟩
  rw [he1.out]
  go_wp2_with (fail)
  refine (laws_toSumS_any _ (H900.out.below RB0.out (Nat.le_refl _)) (by omega)).mono ?_
  rintro e w1 ⟨Aq1, nq1, cq1, rfl, hq1, hb1⟩
  have HB1 := Lib.hid hb1
  clear hb1
  have Oq1 := Lib.hid hq1
  clear hq1
  have Oq1_n : nq1 ≤ 1048576 := (by have h1 := Oq1.out.len; have h2 := H900.out.len; omega)
  have RB1 := Lib.hid (Below.trans RB0.out (HB1.out.mono RB0.out.size))
  have hz1 := HB1.out.size
  have Oq1_lt : Lt Aq1 w1.heap.size := Oq1.out.lt
  go_wp2_with (fail)
  refine (spec_MeanOf_any _ _ Oq1.out.ss).mono ?_
  rintro e w2 ⟨rfl, hb2⟩
  have HB2 := Lib.hid hb2
  clear hb2
  have RB2 := Lib.hid (Below.trans RB1.out (HB2.out.mono RB1.out.size))
  have hz2 := HB2.out.size
  go_wp2_with (fail)
  refine (laws_toSumS_any _ (H900.out.below RB2.out (Nat.le_refl _)) (by omega)).mono ?_
  rintro e w3 ⟨Aq2, nq2, cq2, rfl, hq2, hb3⟩
  have HB3 := Lib.hid hb3
  clear hb3
  have Oq2 := Lib.hid hq2
  clear hq2
  have Oq2_n : nq2 ≤ 1048576 := (by have h1 := Oq2.out.len; have h2 := H900.out.len; omega)
  have RB3 := Lib.hid (Below.trans RB2.out (HB3.out.mono RB2.out.size))
  have hz3 := HB3.out.size
  have Oq2_lt : Lt Aq2 w3.heap.size := Oq2.out.lt
  go_wp2_with (fail)
  refine (impl_MeanOf_any _ _ Oq2.out.ss).mono ?_
  rintro e w4 ⟨rfl, hb4⟩
  have HB4 := Lib.hid hb4
  clear hb4
  have RB4 := Lib.hid (Below.trans RB3.out (HB4.out.mono RB3.out.size))
  have hz4 := HB4.out.size
  go_wp2_with (fail)
  refine (laws_toSumS_any _ (H900.out.below RB4.out (Nat.le_refl _)) (by omega)).mono ?_
  rintro e w5 ⟨Aq3, nq3, cq3, rfl, hq3, hb5⟩
  have HB5 := Lib.hid hb5
  clear hb5
  have Oq3 := Lib.hid hq3
  clear hq3
  have Oq3_n : nq3 ≤ 1048576 := (by have h1 := Oq3.out.len; have h2 := H900.out.len; omega)
  have RB5 := Lib.hid (Below.trans RB4.out (HB5.out.mono RB4.out.size))
  have hz5 := HB5.out.size
  have Oq3_lt : Lt Aq3 w5.heap.size := Oq3.out.lt
  go_wp2_with (fail)
  refine (laws_eqSumS_same _ ((Oq2.out.below HB4.out (Nat.le_refl _)).below HB5.out (Nat.le_refl _)).ss Oq3.out.ss).mono ?_
  rintro e w6 ⟨rfl, hb6⟩
  have HB6 := Lib.hid hb6
  clear hb6
  have RB6 := Lib.hid (Below.trans RB5.out (HB6.out.mono RB5.out.size))
  have hz6 := HB6.out.size
  go_wp2_with (fail)
  go_ret
  exact ⟨rfl, RB6.out⟩
end Go.Proofs.Ytbingkkhhaknlaa
