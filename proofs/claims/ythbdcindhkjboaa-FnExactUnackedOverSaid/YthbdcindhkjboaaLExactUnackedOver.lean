/-
  The law FnExactUnackedOver: its walk. (Written by a program of my own off the law's operations.)
-/
/-
-- CALL: i0 W s0
-/
import Derived.Test.YthbdcindhkjboaaLiV
import Derived.Test.YthbdcindhkjboaaLiW
import Derived.Deep.RegionHeld3
import Derived.Deep.DrawnRows
import Derived.Deep.DeepMust
import Derived.Deep.DeepCutAuto
namespace Go.Proofs.Ythbdcindhkjboaa
open Go.RowKit
attribute [local go_sem ↓] Go.wp_at_zero Go.wp_at_succ
set_option maxRecDepth 100000 in
set_option maxHeartbeats 8000000 in
theorem walk_FnExactUnackedOver {A900 : Option Addr} {n900 c900 : Nat} {xs900 : List Int} (x0 : Int) (w : World) (h900 : IS w A900 n900 c900 xs900) :
    Calls Try.prog 3 #[.slice A900 n900 c900, .int .i64 x0] w fun e w' => e = .returned (.bool true) ∧ Below w.heap.size w w' := by
  have hcap900 := h900.cap
  have H900 := Lib.hid h900
  clear h900
  rcases Int.lt_or_le (1048576 : Int) (n900 : Int) with hs1 | hs1
  · have hs' : (1048576 : Int) < (n900 : Int) := hs1
    have RB0 : Hid (Below w.heap.size w w) := Lib.hid (Below.refl _ _)
    go_enter Try.func3, Try.ntmps3
    go_wp2_with (fail)
    go_ret
    exact ⟨rfl, RB0.out⟩
  have hx1 : 0 ≤ (1048576 : Int) - (n900 : Int) := by omega
  have RB0 : Hid (Below w.heap.size w w) := Lib.hid (Below.refl _ _)
  go_enter Try.func3, Try.ntmps3
  go_wp2_with (fail)
  refine (laws_toIntS_any _ (H900.out.below RB0.out (Nat.le_refl _)) (by omega)).mono ?_
  rintro e w1 ⟨Aq1, nq1, cq1, rfl, hq1, hb1⟩
  have HB1 := Lib.hid hb1
  clear hb1
  have Oq1 := Lib.hid hq1
  clear hq1
  have Oq1_n : nq1 ≤ 1048576 := (by have h1 := Oq1.out.len; have h2 := H900.out.len; omega)
  have RB1 := Lib.hid (Below.trans RB0.out (HB1.out.mono RB0.out.size))
  have hz1 := HB1.out.size
  have Oq1_lt : Lt Aq1 w1.heap.size := Oq1.out.lt
  go_wp2_with (fail)
  refine (spec_UnackedOver_any _ _ Oq1.out.is).mono ?_
  rintro e w2 ⟨Aq2, nq2, cq2, rfl, hq2, hb2⟩
  have HB2 := Lib.hid hb2
  clear hb2
  have Oq2 := Lib.hid hq2
  clear hq2
  have Oq2_n : nq2 ≤ 40 := (by have h1 := Oq2.out.len; have h2 := uakV_le xs900 x0; omega)
  have RB2 := Lib.hid (Below.trans RB1.out (HB2.out.mono RB1.out.size))
  have hz2 := HB2.out.size
  have Oq2_lt : Lt Aq2 w2.heap.size := Oq2.out.lt
  go_wp2_with (fail)
  refine (laws_toIntS_any _ (H900.out.below RB2.out (Nat.le_refl _)) (by omega)).mono ?_
  rintro e w3 ⟨Aq3, nq3, cq3, rfl, hq3, hb3⟩
  have HB3 := Lib.hid hb3
  clear hb3
  have Oq3 := Lib.hid hq3
  clear hq3
  have Oq3_n : nq3 ≤ 1048576 := (by have h1 := Oq3.out.len; have h2 := H900.out.len; omega)
  have RB3 := Lib.hid (Below.trans RB2.out (HB3.out.mono RB2.out.size))
  have hz3 := HB3.out.size
  have Oq3_lt : Lt Aq3 w3.heap.size := Oq3.out.lt
  go_wp2_with (fail)
  refine (impl_UnackedOver_any _ _ Oq3.out.is).mono ?_
  rintro e w4 ⟨Aq4, nq4, cq4, rfl, hq4, hb4⟩
  have HB4 := Lib.hid hb4
  clear hb4
  have Oq4 := Lib.hid hq4
  clear hq4
  have Oq4_n : nq4 ≤ 40 := (by have h1 := Oq4.out.len; have h2 := uakV_le xs900 x0; omega)
  have RB4 := Lib.hid (Below.trans RB3.out (HB4.out.mono RB3.out.size))
  have hz4 := HB4.out.size
  have Oq4_lt : Lt Aq4 w4.heap.size := Oq4.out.lt
  go_wp2_with (fail)
  refine (laws_eqIntS_any _ Oq4.out.is ((Oq2.out.below HB3.out (Nat.le_refl _)).below HB4.out (Nat.le_refl _)).is).mono ?_
  rintro e w' ⟨rfl, m5, rfl⟩
  obtain ⟨w5, e5⟩ : ∃ v : World, v = w4.drewN m5 := ⟨_, rfl⟩
  rw [← e5]
  have HB5 : Hid (Below w4.heap.size w4 w5) := Lib.hid (by rw [e5]; exact below_drewN (Below.refl _ _) _)
  clear e5
  rw [show decide ((uakV xs900 x0) = (uakV xs900 x0)) = true from decide_eq_true rfl]
  have RB5 := Lib.hid (Below.trans RB4.out (HB5.out.mono RB4.out.size))
  have hz5 := HB5.out.size
  go_wp2_with (fail)
  refine (laws_toIntS_any _ (H900.out.below RB5.out (Nat.le_refl _)) (by omega)).mono ?_
  rintro e w6 ⟨Aq5, nq5, cq5, rfl, hq5, hb6⟩
  have HB6 := Lib.hid hb6
  clear hb6
  have Oq5 := Lib.hid hq5
  clear hq5
  have Oq5_n : nq5 ≤ 1048576 := (by have h1 := Oq5.out.len; have h2 := H900.out.len; omega)
  have RB6 := Lib.hid (Below.trans RB5.out (HB6.out.mono RB5.out.size))
  have hz6 := HB6.out.size
  have Oq5_lt : Lt Aq5 w6.heap.size := Oq5.out.lt
  go_wp2_with (fail)
  refine (laws_eqIntS_any _ (((Oq3.out.below HB4.out (Nat.le_refl _)).below HB5.out (Nat.le_refl _)).below HB6.out (Nat.le_refl _)).is Oq5.out.is).mono ?_
  rintro e w' ⟨rfl, m7, rfl⟩
  obtain ⟨w7, e7⟩ : ∃ v : World, v = w6.drewN m7 := ⟨_, rfl⟩
  rw [← e7]
  have HB7 : Hid (Below w6.heap.size w6 w7) := Lib.hid (by rw [e7]; exact below_drewN (Below.refl _ _) _)
  clear e7
  rw [show decide (xs900 = xs900) = true from decide_eq_true rfl]
  have RB7 := Lib.hid (Below.trans RB6.out (HB7.out.mono RB6.out.size))
  have hz7 := HB7.out.size
  go_wp2_with (fail)
  refine (laws_markIntS_any _ _ ((((Oq3.out.below HB4.out (Nat.le_refl _)).below HB5.out (Nat.le_refl _)).below HB6.out (Nat.le_refl _)).below HB7.out (Nat.le_refl _)) (by omega) (by omega) (by omega)).mono ?_
  rintro e w8 ⟨rfl, hq6, hb8⟩
  have HB8 := Lib.hid hb8
  clear hb8
  have Oq6 := Lib.hid hq6
  clear hq6
  have RB8 := Lib.hid (below_row RB7.out HB8.out RB7.out.size (Oq3.out.ge.mono (by first | omega | (simp; done) | (simp; omega))))
  have hz8 := HB8.out.size
  go_wp2_with (fail)
  refine (laws_eqIntS_any _ ((((Oq4.out.below HB5.out (Nat.le_refl _)).below HB6.out (Nat.le_refl _)).below HB7.out (Nat.le_refl _)).away HB8.out (Disj.mk (B := w3.heap.size) (Oq3_lt.mono (by omega)) (Oq4.out.ge.mono (by first | omega | (simp; done) | (simp; omega)))).symm).is ((((((Oq2.out.below HB3.out (Nat.le_refl _)).below HB4.out (Nat.le_refl _)).below HB5.out (Nat.le_refl _)).below HB6.out (Nat.le_refl _)).below HB7.out (Nat.le_refl _)).away HB8.out (Disj.mk (B := w2.heap.size) (Oq2_lt.mono (by omega)) (Oq6.out.ge.mono (by first | omega | (simp; done) | (simp; omega))))).is).mono ?_
  rintro e w' ⟨rfl, m9, rfl⟩
  obtain ⟨w9, e9⟩ : ∃ v : World, v = w8.drewN m9 := ⟨_, rfl⟩
  rw [← e9]
  have HB9 : Hid (Below w8.heap.size w8 w9) := Lib.hid (by rw [e9]; exact below_drewN (Below.refl _ _) _)
  clear e9
  rw [show decide ((uakV xs900 x0) = (uakV xs900 x0)) = true from decide_eq_true rfl]
  have RB9 := Lib.hid (Below.trans RB8.out (HB9.out.mono RB8.out.size))
  have hz9 := HB9.out.size
  go_wp2_with (fail)
  refine (laws_markIntS_q _ _ (((((Oq4.out.below HB5.out (Nat.le_refl _)).below HB6.out (Nat.le_refl _)).below HB7.out (Nat.le_refl _)).away HB8.out (Disj.mk (B := w3.heap.size) (Oq3_lt.mono (by omega)) (Oq4.out.ge.mono (by first | omega | (simp; done) | (simp; omega)))).symm).below HB9.out (Nat.le_refl _)) (by omega) (by omega) (by omega)).mono ?_
  rintro e w10 ⟨rfl, hq7, hb10⟩
  have HB10 := Lib.hid hb10
  clear hb10
  have Oq7 := Lib.hid hq7
  clear hq7
  have RB10 := Lib.hid (below_row RB9.out HB10.out RB9.out.size (Oq4.out.ge.mono (by first | omega | (simp; done) | (simp; omega))))
  have hz10 := HB10.out.size
  go_wp2_with (fail)
  refine (laws_heldIntS_any _ _ Oq7.out.is (by omega) (by omega) (by omega)).mono ?_
  rintro e w' ⟨rfl, rfl⟩
  go_wp2_with (fail)
  refine (laws_toIntS_any _ (H900.out.below RB10.out (Nat.le_refl _)) (by omega)).mono ?_
  rintro e w11 ⟨Aq8, nq8, cq8, rfl, hq8, hb11⟩
  have HB11 := Lib.hid hb11
  clear hb11
  have Oq8 := Lib.hid hq8
  clear hq8
  have Oq8_n : nq8 ≤ 1048576 := (by have h1 := Oq8.out.len; have h2 := H900.out.len; omega)
  have RB11 := Lib.hid (Below.trans RB10.out (HB11.out.mono RB10.out.size))
  have hz11 := HB11.out.size
  have Oq8_lt : Lt Aq8 w11.heap.size := Oq8.out.lt
  go_wp2_with (fail)
  refine (impl_UnackedOver_any _ _ Oq8.out.is).mono ?_
  rintro e w12 ⟨Aq9, nq9, cq9, rfl, hq9, hb12⟩
  have HB12 := Lib.hid hb12
  clear hb12
  have Oq9 := Lib.hid hq9
  clear hq9
  have Oq9_n : nq9 ≤ 40 := (by have h1 := Oq9.out.len; have h2 := uakV_le xs900 x0; omega)
  have RB12 := Lib.hid (Below.trans RB11.out (HB12.out.mono RB11.out.size))
  have hz12 := HB12.out.size
  have Oq9_lt : Lt Aq9 w12.heap.size := Oq9.out.lt
  go_wp2_with (fail)
  refine (laws_eqIntS_any _ Oq9.out.is ((((((((((Oq2.out.below HB3.out (Nat.le_refl _)).below HB4.out (Nat.le_refl _)).below HB5.out (Nat.le_refl _)).below HB6.out (Nat.le_refl _)).below HB7.out (Nat.le_refl _)).away HB8.out (Disj.mk (B := w2.heap.size) (Oq2_lt.mono (by omega)) (Oq6.out.ge.mono (by first | omega | (simp; done) | (simp; omega))))).below HB9.out (Nat.le_refl _)).away HB10.out (Disj.mk (B := w2.heap.size) (Oq2_lt.mono (by omega)) (Oq7.out.ge.mono (by first | omega | (simp; done) | (simp; omega))))).below HB11.out (Nat.le_refl _)).below HB12.out (Nat.le_refl _)).is).mono ?_
  rintro e w' ⟨rfl, m13, rfl⟩
  obtain ⟨w13, e13⟩ : ∃ v : World, v = w12.drewN m13 := ⟨_, rfl⟩
  rw [← e13]
  have HB13 : Hid (Below w12.heap.size w12 w13) := Lib.hid (by rw [e13]; exact below_drewN (Below.refl _ _) _)
  clear e13
  rw [show decide ((uakV xs900 x0) = (uakV xs900 x0)) = true from decide_eq_true rfl]
  have RB13 := Lib.hid (Below.trans RB12.out (HB13.out.mono RB12.out.size))
  have hz13 := HB13.out.size
  go_wp2_with (fail)
  refine (laws_heldIntS_any _ _ (((Oq7.out.below HB11.out (Nat.le_refl _)).below HB12.out (Nat.le_refl _)).below HB13.out (Nat.le_refl _)).is (by omega) (by omega) (by omega)).mono ?_
  rintro e w' ⟨rfl, rfl⟩
  go_wp2_with (fail)
  go_ret
  exact ⟨rfl, RB13.out⟩
end Go.Proofs.Ythbdcindhkjboaa
