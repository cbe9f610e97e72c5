/-
  The law FnExactCountTurns: its walk. (Written by a program of my own off the law's operations.)
-/
/-
-- CALL: i0 i1 i2 i3 W s0 wa0
-/
import Derived.Test.YtdbfccfckinjmaaDoorHp
import Derived.Deep.RegionHeld3
import Derived.Deep.DrawnRows
import Derived.Deep.DeepMust
import Derived.Deep.DeepCutAuto
namespace Go.Proofs.YtdbfccfckinjmaaDoor
open Go.RowKit
attribute [local go_sem ↓] Go.wp_at_zero Go.wp_at_succ
set_option maxRecDepth 100000 in
set_option maxHeartbeats 8000000 in
theorem walk_FnExactCountTurns {A900 : Option Addr} {n900 c900 : Nat} {xs900 : List Int} (x0 : Int) (x1 : Int) (x2 : Int) (x3 : Int) (w : World) (h900 : IS w A900 n900 c900 xs900) (h800 : HA w) :
    Calls Tryd.prog 5 #[.agg #[.int .i64 x0, .int .i64 x1, .int .i64 x2, .int .i64 x3], .slice A900 n900 c900] w fun e w' => e = .returned (.bool true) ∧ Below w.heap.size w w' := by
  have H800 := Lib.hid h800
  clear h800
  have hcap900 := h900.cap
  have H900 := Lib.hid h900
  clear h900
  rcases Int.lt_or_le (1048576 : Int) (n900 : Int) with hs1 | hs1
  · have hs' : (1048576 : Int) < (n900 : Int) := hs1
    have RB0 : Hid (Below w.heap.size w w) := Lib.hid (Below.refl _ _)
    go_enter Tryd.func5, Tryd.ntmps5
    go_wp2_with (fail)
    go_ret
    exact ⟨rfl, (RB0.out.alloc (by have := RB0.out.size; first | omega | (simp; done) | (simp; omega)) _)⟩
  have hx1 : 0 ≤ (1048576 : Int) - (n900 : Int) := by omega
  have RB0 : Hid (Below w.heap.size w w) := Lib.hid (Below.refl _ _)
  go_enter Tryd.func5, Tryd.ntmps5
  go_wp2_with (fail)
  refine (laws_toMarks_any _ _ _ _ _).mono ?_
  rintro e w1 ⟨rfl, hb1⟩
  have HB1 := Lib.hid hb1
  clear hb1
  have RB1 := Lib.hid (Below.trans (RB0.out.alloc (by have := RB0.out.size; first | omega | (simp; done) | (simp; omega)) _) (HB1.out.mono (by have := RB0.out.size; first | omega | (simp; done) | (simp; omega))))
  have hz1 := HB1.out.size
  simp at hz1
  go_wp2_with (fail)
  refine (laws_toIntS_any _ (H900.out.below RB1.out (Nat.le_refl _)) (by omega)).mono ?_
  rintro e w2 ⟨Aq1, nq1, cq1, rfl, hq1, hb2⟩
  have HB2 := Lib.hid hb2
  clear hb2
  have Oq1 := Lib.hid hq1
  clear hq1
  have Oq1_n : nq1 ≤ 1048576 := (by have h1 := Oq1.out.len; have h2 := H900.out.len; omega)
  have RB2 := Lib.hid (Below.trans RB1.out (HB2.out.mono RB1.out.size))
  have hz2 := HB2.out.size
  have Oq1_lt : Lt Aq1 w2.heap.size := Oq1.out.lt
  go_wp2_with (fail)
  refine (spec_CountTurns_any _ _ _ _ _ Oq1.out.is).mono ?_
  rintro e w3 ⟨rfl, hb3⟩
  have HB3 := Lib.hid hb3
  clear hb3
  have RB3 := Lib.hid (Below.trans RB2.out (HB3.out.mono RB2.out.size))
  have hz3 := HB3.out.size
  go_wp2_with (fail)
  refine (laws_toIntS_any _ (H900.out.below RB3.out (Nat.le_refl _)) (by omega)).mono ?_
  rintro e w4 ⟨Aq2, nq2, cq2, rfl, hq2, hb4⟩
  have HB4 := Lib.hid hb4
  clear hb4
  have Oq2 := Lib.hid hq2
  clear hq2
  have Oq2_n : nq2 ≤ 1048576 := (by have h1 := Oq2.out.len; have h2 := H900.out.len; omega)
  have RB4 := Lib.hid (Below.trans RB3.out (HB4.out.mono RB3.out.size))
  have hz4 := HB4.out.size
  have Oq2_lt : Lt Aq2 w4.heap.size := Oq2.out.lt
  have K1 := Lib.hid (((((Blk.new w 23 #[.int .i64 x0, .int .i64 x1, .int .i64 x2, .int .i64 x3]).on HB1.out).on HB2.out).on HB3.out).on HB4.out)
  obtain ⟨k1_0, k1_1, k1_2, k1_3⟩ := K1.out.c4
  have k1_lt := K1.out.lt
  go_wp2_with (fail)
  refine (laws_toMarks_any _ _ _ _ _).mono ?_
  clear k1_0 k1_1 k1_2 k1_3 k1_lt
  rintro e w5 ⟨rfl, hb5⟩
  have HB5 := Lib.hid hb5
  clear hb5
  have RB5 := Lib.hid (Below.trans RB4.out (HB5.out.mono RB4.out.size))
  have hz5 := HB5.out.size
  go_wp2_with (fail)
  refine (impl_CountTurns_any _ _ _ _ _ (Oq2.out.below HB5.out (Nat.le_refl _)).is ((H800.out.below RB5.out (Nat.le_refl _)))).mono ?_
  rintro e w6 ⟨rfl, hb6⟩
  have HB6 := Lib.hid hb6
  clear hb6
  have RB6 := Lib.hid (Below.trans RB5.out (HB6.out.mono RB5.out.size))
  have hz6 := HB6.out.size
  go_wp2_with (fail)
  refine (laws_toIntS_any _ (H900.out.below RB6.out (Nat.le_refl _)) (by omega)).mono ?_
  rintro e w7 ⟨Aq3, nq3, cq3, rfl, hq3, hb7⟩
  have HB7 := Lib.hid hb7
  clear hb7
  have Oq3 := Lib.hid hq3
  clear hq3
  have Oq3_n : nq3 ≤ 1048576 := (by have h1 := Oq3.out.len; have h2 := H900.out.len; omega)
  have RB7 := Lib.hid (Below.trans RB6.out (HB7.out.mono RB6.out.size))
  have hz7 := HB7.out.size
  have Oq3_lt : Lt Aq3 w7.heap.size := Oq3.out.lt
  go_wp2_with (fail)
  refine (laws_eqIntS_any _ (((Oq2.out.below HB5.out (Nat.le_refl _)).below HB6.out (Nat.le_refl _)).below HB7.out (Nat.le_refl _)).is Oq3.out.is).mono ?_
  rintro e w' ⟨rfl, m8, rfl⟩
  obtain ⟨w8, e8⟩ : ∃ v : World, v = w7.drewN m8 := ⟨_, rfl⟩
  rw [← e8]
  have HB8 : Hid (Below w7.heap.size w7 w8) := Lib.hid (by rw [e8]; exact below_drewN (Below.refl _ _) _)
  clear e8
  rw [show decide (xs900 = xs900) = true from decide_eq_true rfl]
  have RB8 := Lib.hid (Below.trans RB7.out (HB8.out.mono RB7.out.size))
  have hz8 := HB8.out.size
  go_wp2_with (fail)
  go_ret
  exact ⟨rfl, RB8.out⟩
end Go.Proofs.YtdbfccfckinjmaaDoor
