/-
  The law FnExactTryTimes: its walk. (Written by a program of my own off the law's operations.)
-/
/-
-- CALL: i0 i1 i2 W wa0
-/
import Derived.Test.YtdbmglhoohgniaaDoorTryB
import Derived.Deep.RegionHeld3
import Derived.Deep.DrawnRows
import Derived.Deep.DeepMust
import Derived.Deep.DeepCutAuto
namespace Go.Proofs.YtdbmglhoohgniaaDoor
open Go.RowKit
attribute [local go_sem ↓] Go.wp_at_zero Go.wp_at_succ
set_option maxRecDepth 100000 in
set_option maxHeartbeats 8000000 in
theorem walk_FnExactTryTimes  (x0 : Int) (x1 : Int) (x2 : Int) (w : World)  (h800 : WA w) :
    Calls Tryd.prog 5 #[.int .i64 x0, .int .i64 x1, .int .i64 x2] w fun e w' => e = .returned (.bool true) ∧ Below w.heap.size w w' := by
  have H800 := Lib.hid h800
  clear h800
  have RB0 : Hid (Below w.heap.size w w) := Lib.hid (Below.refl _ _)
  go_enter Tryd.func5, Tryd.ntmps5
  go_wp2_with (fail)
  refine (spec_TryTimes_any _ _ _ _).mono ?_
  rintro e w1 ⟨Aq1, nq1, cq1, rfl, hq1, hb1⟩
  have HB1 := Lib.hid hb1
  clear hb1
  have Oq1 := Lib.hid hq1
  clear hq1
  have Oq1_n : nq1 ≤ 7 := (by have h1 := Oq1.out.len; have h2 := tsV_le x0 x1 x2; omega)
  have RB1 := Lib.hid (Below.trans RB0.out (HB1.out.mono RB0.out.size))
  have hz1 := HB1.out.size
  have Oq1_lt : Lt Aq1 w1.heap.size := Oq1.out.lt
  go_wp2_with (fail)
  refine (impl_TryTimes_any _ _ _ _ (H800.out.below RB1.out (Nat.le_refl _))).mono ?_
  rintro e w2 ⟨Aq2, nq2, cq2, rfl, hq2, hb2⟩
  have HB2 := Lib.hid hb2
  clear hb2
  have Oq2 := Lib.hid hq2
  clear hq2
  have Oq2_n : nq2 ≤ 7 := (by have h1 := Oq2.out.len; have h2 := tsV_le x0 x1 x2; omega)
  have RB2 := Lib.hid (Below.trans RB1.out (HB2.out.mono RB1.out.size))
  have hz2 := HB2.out.size
  have Oq2_lt : Lt Aq2 w2.heap.size := Oq2.out.lt
  go_wp2_with (fail)
  refine (laws_eqIntS_any _ Oq2.out.is (Oq1.out.below HB2.out (Nat.le_refl _)).is).mono ?_
  rintro e w' ⟨rfl, m3, rfl⟩
  obtain ⟨w3, e3⟩ : ∃ v : World, v = w2.drewN m3 := ⟨_, rfl⟩
  rw [← e3]
  have HB3 : Hid (Below w2.heap.size w2 w3) := Lib.hid (by rw [e3]; exact below_drewN (Below.refl _ _) _)
  clear e3
  rw [show decide ((tsV x0 x1 x2) = (tsV x0 x1 x2)) = true from decide_eq_true rfl]
  have RB3 := Lib.hid (Below.trans RB2.out (HB3.out.mono RB2.out.size))
  have hz3 := HB3.out.size
  go_wp2_with (fail)
  refine (laws_markIntS_any _ _ (Oq2.out.below HB3.out (Nat.le_refl _)) (by omega) (by omega) (by omega)).mono ?_
  rintro e w4 ⟨rfl, hq3, hb4⟩
  have HB4 := Lib.hid hb4
  clear hb4
  have Oq3 := Lib.hid hq3
  clear hq3
  have RB4 := Lib.hid (below_row RB3.out HB4.out RB3.out.size (Oq2.out.ge.mono (by first | omega | (simp; done) | (simp; omega))))
  have hz4 := HB4.out.size
  go_wp2_with (fail)
  refine (laws_heldIntS_any _ _ Oq3.out.is (by omega) (by omega) (by omega)).mono ?_
  rintro e w' ⟨rfl, rfl⟩
  go_wp2_with (fail)
  refine (impl_TryTimes_any _ _ _ _ (H800.out.below RB4.out (Nat.le_refl _))).mono ?_
  rintro e w5 ⟨Aq4, nq4, cq4, rfl, hq4, hb5⟩
  have HB5 := Lib.hid hb5
  clear hb5
  have Oq4 := Lib.hid hq4
  clear hq4
  have Oq4_n : nq4 ≤ 7 := (by have h1 := Oq4.out.len; have h2 := tsV_le x0 x1 x2; omega)
  have RB5 := Lib.hid (Below.trans RB4.out (HB5.out.mono RB4.out.size))
  have hz5 := HB5.out.size
  have Oq4_lt : Lt Aq4 w5.heap.size := Oq4.out.lt
  go_wp2_with (fail)
  refine (laws_eqIntS_any _ Oq4.out.is ((((Oq1.out.below HB2.out (Nat.le_refl _)).below HB3.out (Nat.le_refl _)).away HB4.out (Disj.mk (B := w1.heap.size) (Oq1_lt.mono (by omega)) (Oq3.out.ge.mono (by first | omega | (simp; done) | (simp; omega))))).below HB5.out (Nat.le_refl _)).is).mono ?_
  rintro e w' ⟨rfl, m6, rfl⟩
  obtain ⟨w6, e6⟩ : ∃ v : World, v = w5.drewN m6 := ⟨_, rfl⟩
  rw [← e6]
  have HB6 : Hid (Below w5.heap.size w5 w6) := Lib.hid (by rw [e6]; exact below_drewN (Below.refl _ _) _)
  clear e6
  rw [show decide ((tsV x0 x1 x2) = (tsV x0 x1 x2)) = true from decide_eq_true rfl]
  have RB6 := Lib.hid (Below.trans RB5.out (HB6.out.mono RB5.out.size))
  have hz6 := HB6.out.size
  go_wp2_with (fail)
  refine (laws_heldIntS_any _ _ ((Oq3.out.below HB5.out (Nat.le_refl _)).below HB6.out (Nat.le_refl _)).is (by omega) (by omega) (by omega)).mono ?_
  rintro e w' ⟨rfl, rfl⟩
  go_wp2_with (fail)
  go_ret
  exact ⟨rfl, RB6.out⟩
end Go.Proofs.YtdbmglhoohgniaaDoor
