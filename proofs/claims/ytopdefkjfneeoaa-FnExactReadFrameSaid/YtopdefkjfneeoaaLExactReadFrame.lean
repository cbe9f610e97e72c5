/-
  The law FnExactReadFrame: its walk. (Written by a program of my own off the law's operations.)
-/
/-
-- CALL: W s0
-/
import Derived.Test.YtopdefkjfneeoaaReadS
import Derived.Test.YtopdefkjfneeoaaReadF
import Derived.Deep.RegionHeld3
import Derived.Deep.DrawnRows
import Derived.Deep.DeepMust
namespace Go.Proofs.Ytopdefkjfneeoaa
open Go.RowKit
attribute [local go_sem ↓] Go.wp_at_zero Go.wp_at_succ
set_option maxHeartbeats 4000000 in
theorem walk_FnExactReadFrame {A900 : Option Addr} {n900 c900 : Nat} {xs900 : List Int}  (w : World) (h900 : IS w A900 n900 c900 xs900) :
    Calls Try.prog 6 #[.slice A900 n900 c900] w fun e w' => e = .returned (.bool true) ∧ Below w.heap.size w w' := by
  have hcap900 := h900.cap
  have H900 := Lib.hid h900
  clear h900
  rcases Int.lt_or_le (1048576 : Int) (n900 : Int) with hs1 | hs1
  · have hs' : (1048576 : Int) < (n900 : Int) := hs1
    have RB0 : Hid (Below w.heap.size w w) := Lib.hid (Below.refl _ _)
    go_enter Try.func6, Try.ntmps6
    go_wp2_with (fail)
    go_ret
    exact ⟨rfl, RB0.out⟩
  have hx1 : 0 ≤ (1048576 : Int) - (n900 : Int) := by omega
  have RB0 : Hid (Below w.heap.size w w) := Lib.hid (Below.refl _ _)
  go_enter Try.func6, Try.ntmps6
  go_wp2_with (fail)
  refine (laws_toIntS_any _ (H900.out.below RB0.out (Nat.le_refl _)) (by omega)).mono ?_
  rintro e w1 ⟨Aq1, nq1, cq1, rfl, hq1, hb1⟩
  have HB1 := Lib.hid hb1
  clear hb1
  have Oq1 := Lib.hid hq1
  clear hq1
  have Oq1_n : nq1 ≤ 1048576 := (by have h1 := Oq1.out.len; have h2 := H900.out.len; omega)
  have RB1 := Lib.hid (Below.trans RB0.out (HB1.out.mono RB0.out.size))
  have hz1 := HB1.out.size
  have Oq1_lt : Lt Aq1 w1.heap.size := Oq1.out.lt
  go_wp2_with (fail)
  refine (spec_ReadFrame_any _ Oq1.out.is).mono ?_
  rintro e w2 ⟨Aq2, nq2, cq2, rfl, hq2, hb2⟩
  have HB2 := Lib.hid hb2
  clear hb2
  have Oq2 := Lib.hid hq2
  clear hq2
  have Oq2_n : nq2 ≤ 8 := (by have h1 := Oq2.out.len; have h2 := rX_le xs900; omega)
  have RB2 := Lib.hid (Below.trans RB1.out (HB2.out.mono RB1.out.size))
  have hz2 := HB2.out.size
  have Oq2_lt : Lt Aq2 w2.heap.size := Oq2.out.lt
  go_wp2_with (fail)
  refine (laws_toIntS_any _ ((H900.out.below RB2.out (Nat.le_refl _)).alloc _) (by omega)).mono ?_
  rintro e w3 ⟨Aq3, nq3, cq3, rfl, hq3, hb3⟩
  have HB3 := Lib.hid hb3
  clear hb3
  have Oq3 := Lib.hid hq3
  clear hq3
  have Oq3_n : nq3 ≤ 1048576 := (by have h1 := Oq3.out.len; have h2 := H900.out.len; omega)
  have RB3 := Lib.hid (Below.trans (RB2.out.alloc (by have := RB2.out.size; first | omega | (simp; done) | (simp; omega)) _) (HB3.out.mono (by have := RB2.out.size; first | omega | (simp; done) | (simp; omega))))
  have hz3 := HB3.out.size
  simp at hz3
  have Oq3_lt : Lt Aq3 w3.heap.size := Oq3.out.lt
  go_wp2_with (fail)
  refine (impl_ReadFrame_any _ Oq3.out.is).mono ?_
  rintro e w4 ⟨Aq4, nq4, cq4, rfl, hq4, hb4⟩
  have HB4 := Lib.hid hb4
  clear hb4
  have Oq4 := Lib.hid hq4
  clear hq4
  have Oq4_n : nq4 ≤ 8 := (by have h1 := Oq4.out.len; have h2 := rX_le xs900; omega)
  have RB4 := Lib.hid (Below.trans RB3.out (HB4.out.mono RB3.out.size))
  have hz4 := HB4.out.size
  have Oq4_lt : Lt Aq4 w4.heap.size := Oq4.out.lt
  have K1 := Lib.hid (((Blk.new w2 27 #[.int .i64 (rC xs900), .int .i64 (rK xs900), .slice Aq2 nq2 cq2]).on HB3.out).on HB4.out)
  obtain ⟨k1_0, k1_1, k1_2⟩ := K1.out.c3
  have k1_lt := K1.out.lt
  go_wp2_with (fail)
  refine (laws_eqItem_any _ _ _ _ _ (Oq4.out.alloc _).is ((((Oq2.out.alloc _).below HB3.out (Nat.le_refl _)).below HB4.out (Nat.le_refl _)).alloc _).is).mono ?_
  clear k1_0 k1_1 k1_2 k1_lt
  rintro e w5 ⟨rfl, hb5⟩
  have HB5 := Lib.hid hb5
  clear hb5
  rw [eqI_refl]
  have RB5 := Lib.hid (Below.trans (RB4.out.alloc (by have := RB4.out.size; first | omega | (simp; done) | (simp; omega)) _) (HB5.out.mono (by have := RB4.out.size; first | omega | (simp; done) | (simp; omega))))
  have hz5 := HB5.out.size
  simp at hz5
  go_wp2_with (fail)
  refine (laws_toIntS_any _ (H900.out.below RB5.out (Nat.le_refl _)) (by omega)).mono ?_
  rintro e w6 ⟨Aq5, nq5, cq5, rfl, hq5, hb6⟩
  have HB6 := Lib.hid hb6
  clear hb6
  have Oq5 := Lib.hid hq5
  clear hq5
  have Oq5_n : nq5 ≤ 1048576 := (by have h1 := Oq5.out.len; have h2 := H900.out.len; omega)
  have RB6 := Lib.hid (Below.trans RB5.out (HB6.out.mono RB5.out.size))
  have hz6 := HB6.out.size
  have Oq5_lt : Lt Aq5 w6.heap.size := Oq5.out.lt
  go_wp2_with (fail)
  refine (laws_eqIntS_any _ ((((Oq3.out.below HB4.out (Nat.le_refl _)).alloc _).below HB5.out (Nat.le_refl _)).below HB6.out (Nat.le_refl _)).is Oq5.out.is).mono ?_
  rintro e w' ⟨rfl, m7, rfl⟩
  obtain ⟨w7, e7⟩ : ∃ v : World, v = w6.drewN m7 := ⟨_, rfl⟩
  rw [← e7]
  have HB7 : Hid (Below w6.heap.size w6 w7) := Lib.hid (by rw [e7]; exact below_drewN (Below.refl _ _) _)
  clear e7
  rw [show decide (xs900 = xs900) = true from decide_eq_true rfl]
  have RB7 := Lib.hid (Below.trans RB6.out (HB7.out.mono RB6.out.size))
  have hz7 := HB7.out.size
  go_wp2_with (fail)
  refine (laws_markIntS_any _ _ (((((Oq3.out.below HB4.out (Nat.le_refl _)).alloc _).below HB5.out (Nat.le_refl _)).below HB6.out (Nat.le_refl _)).below HB7.out (Nat.le_refl _)) (by omega) (by omega) (by omega)).mono ?_
  rintro e w8 ⟨rfl, hq6, hb8⟩
  have HB8 := Lib.hid hb8
  clear hb8
  have Oq6 := Lib.hid hq6
  clear hq6
  have RB8 := Lib.hid (below_row RB7.out HB8.out RB7.out.size (Oq3.out.ge.mono (by first | omega | (simp; done) | (simp; omega))))
  have hz8 := HB8.out.size
  have K2 := Lib.hid (((((Blk.new w4 27 #[.int .i64 (rC xs900), .int .i64 (rK xs900), .slice Aq4 nq4 cq4]).on HB5.out).on HB6.out).on HB7.out).away HB8.out (Disj.mk (B := w3.heap.size) (Oq3_lt.mono (by omega)) (fun p hp => by cases hp; show _ ≤ w4.heap.size; omega)).symm)
  obtain ⟨k2_0, k2_1, k2_2⟩ := K2.out.c3
  have k2_lt := K2.out.lt
  have K3 := Lib.hid ((((((((Blk.new w2 27 #[.int .i64 (rC xs900), .int .i64 (rK xs900), .slice Aq2 nq2 cq2]).on HB3.out).on HB4.out).alloc _).on HB5.out).on HB6.out).on HB7.out).away HB8.out (Disj.mk (B := w2.heap.size + 1) (fun p hp => by cases hp; show w2.heap.size < _; omega) (Oq6.out.ge.mono (by first | omega | (simp; done) | (simp; omega)))))
  obtain ⟨k3_0, k3_1, k3_2⟩ := K3.out.c3
  have k3_lt := K3.out.lt
  go_wp2_with (fail)
  refine (laws_eqItem_any _ _ _ _ _ (((((Oq4.out.alloc _).below HB5.out (Nat.le_refl _)).below HB6.out (Nat.le_refl _)).below HB7.out (Nat.le_refl _)).away HB8.out (Disj.mk (B := w3.heap.size) (Oq3_lt.mono (by omega)) (Oq4.out.ge.mono (by first | omega | (simp; done) | (simp; omega)))).symm).is ((((((((Oq2.out.alloc _).below HB3.out (Nat.le_refl _)).below HB4.out (Nat.le_refl _)).alloc _).below HB5.out (Nat.le_refl _)).below HB6.out (Nat.le_refl _)).below HB7.out (Nat.le_refl _)).away HB8.out (Disj.mk (B := w2.heap.size) (Oq2_lt.mono (by omega)) (Oq6.out.ge.mono (by first | omega | (simp; done) | (simp; omega))))).is).mono ?_
  clear k2_0 k2_1 k2_2 k2_lt k3_0 k3_1 k3_2 k3_lt
  rintro e w9 ⟨rfl, hb9⟩
  have HB9 := Lib.hid hb9
  clear hb9
  rw [eqI_refl]
  have RB9 := Lib.hid (Below.trans RB8.out (HB9.out.mono RB8.out.size))
  have hz9 := HB9.out.size
  have K4 := Lib.hid ((((((Blk.new w4 27 #[.int .i64 (rC xs900), .int .i64 (rK xs900), .slice Aq4 nq4 cq4]).on HB5.out).on HB6.out).on HB7.out).away HB8.out (Disj.mk (B := w3.heap.size) (Oq3_lt.mono (by omega)) (fun p hp => by cases hp; show _ ≤ w4.heap.size; omega)).symm).on HB9.out)
  obtain ⟨k4_0, k4_1, k4_2⟩ := K4.out.c3
  have k4_lt := K4.out.lt
  go_wp2_with (fail)
  refine (laws_markItem_any _ _ _ _ ((((((Oq4.out.alloc _).below HB5.out (Nat.le_refl _)).below HB6.out (Nat.le_refl _)).below HB7.out (Nat.le_refl _)).away HB8.out (Disj.mk (B := w3.heap.size) (Oq3_lt.mono (by omega)) (Oq4.out.ge.mono (by first | omega | (simp; done) | (simp; omega)))).symm).below HB9.out (Nat.le_refl _)) (by omega) (by omega) (by omega)).mono ?_
  clear k4_0 k4_1 k4_2 k4_lt
  rintro e w10 ⟨rfl, hq7, hb10⟩
  have HB10 := Lib.hid hb10
  clear hb10
  have Oq7 := Lib.hid hq7
  clear hq7
  have RB10 := Lib.hid (below_row RB9.out HB10.out RB9.out.size (Oq4.out.ge.mono (by first | omega | (simp; done) | (simp; omega))))
  have hz10 := HB10.out.size
  have K5 := Lib.hid (((((((Blk.new w4 27 #[.int .i64 (rC xs900), .int .i64 (rK xs900), .slice Aq4 nq4 cq4]).on HB5.out).on HB6.out).on HB7.out).away HB8.out (Disj.mk (B := w3.heap.size) (Oq3_lt.mono (by omega)) (fun p hp => by cases hp; show _ ≤ w4.heap.size; omega)).symm).on HB9.out).away HB10.out (Disj.mk (B := w4.heap.size) (Oq4_lt.mono (by omega)) (fun p hp => by cases hp; show _ ≤ w4.heap.size; omega)).symm)
  obtain ⟨k5_0, k5_1, k5_2⟩ := K5.out.c3
  have k5_lt := K5.out.lt
  go_wp2_with (fail)
  refine (laws_heldItem_any _ _ _ _ Oq7.out.is (by omega) (by omega) (by omega)).mono ?_
  clear k5_0 k5_1 k5_2 k5_lt
  rintro e w11 ⟨rfl, hb11⟩
  have HB11 := Lib.hid hb11
  clear hb11
  have RB11 := Lib.hid (Below.trans RB10.out (HB11.out.mono RB10.out.size))
  have hz11 := HB11.out.size
  go_wp2_with (fail)
  refine (laws_toIntS_any _ (H900.out.below RB11.out (Nat.le_refl _)) (by omega)).mono ?_
  rintro e w12 ⟨Aq8, nq8, cq8, rfl, hq8, hb12⟩
  have HB12 := Lib.hid hb12
  clear hb12
  have Oq8 := Lib.hid hq8
  clear hq8
  have Oq8_n : nq8 ≤ 1048576 := (by have h1 := Oq8.out.len; have h2 := H900.out.len; omega)
  have RB12 := Lib.hid (Below.trans RB11.out (HB12.out.mono RB11.out.size))
  have hz12 := HB12.out.size
  have Oq8_lt : Lt Aq8 w12.heap.size := Oq8.out.lt
  go_wp2_with (fail)
  refine (impl_ReadFrame_any _ Oq8.out.is).mono ?_
  rintro e w13 ⟨Aq9, nq9, cq9, rfl, hq9, hb13⟩
  have HB13 := Lib.hid hb13
  clear hb13
  have Oq9 := Lib.hid hq9
  clear hq9
  have Oq9_n : nq9 ≤ 8 := (by have h1 := Oq9.out.len; have h2 := rX_le xs900; omega)
  have RB13 := Lib.hid (Below.trans RB12.out (HB13.out.mono RB12.out.size))
  have hz13 := HB13.out.size
  have Oq9_lt : Lt Aq9 w13.heap.size := Oq9.out.lt
  have K6 := Lib.hid (((((((((((((Blk.new w2 27 #[.int .i64 (rC xs900), .int .i64 (rK xs900), .slice Aq2 nq2 cq2]).on HB3.out).on HB4.out).alloc _).on HB5.out).on HB6.out).on HB7.out).away HB8.out (Disj.mk (B := w2.heap.size + 1) (fun p hp => by cases hp; show w2.heap.size < _; omega) (Oq6.out.ge.mono (by first | omega | (simp; done) | (simp; omega))))).on HB9.out).away HB10.out (Disj.mk (B := w2.heap.size + 1) (fun p hp => by cases hp; show w2.heap.size < _; omega) (Oq7.out.ge.mono (by first | omega | (simp; done) | (simp; omega))))).on HB11.out).on HB12.out).on HB13.out)
  obtain ⟨k6_0, k6_1, k6_2⟩ := K6.out.c3
  have k6_lt := K6.out.lt
  go_wp2_with (fail)
  refine (laws_eqItem_any _ _ _ _ _ (Oq9.out.alloc _).is ((((((((((((((Oq2.out.alloc _).below HB3.out (Nat.le_refl _)).below HB4.out (Nat.le_refl _)).alloc _).below HB5.out (Nat.le_refl _)).below HB6.out (Nat.le_refl _)).below HB7.out (Nat.le_refl _)).away HB8.out (Disj.mk (B := w2.heap.size) (Oq2_lt.mono (by omega)) (Oq6.out.ge.mono (by first | omega | (simp; done) | (simp; omega))))).below HB9.out (Nat.le_refl _)).away HB10.out (Disj.mk (B := w2.heap.size) (Oq2_lt.mono (by omega)) (Oq7.out.ge.mono (by first | omega | (simp; done) | (simp; omega))))).below HB11.out (Nat.le_refl _)).below HB12.out (Nat.le_refl _)).below HB13.out (Nat.le_refl _)).alloc _).is).mono ?_
  clear k6_0 k6_1 k6_2 k6_lt
  rintro e w14 ⟨rfl, hb14⟩
  have HB14 := Lib.hid hb14
  clear hb14
  rw [eqI_refl]
  have RB14 := Lib.hid (Below.trans (RB13.out.alloc (by have := RB13.out.size; first | omega | (simp; done) | (simp; omega)) _) (HB14.out.mono (by have := RB13.out.size; first | omega | (simp; done) | (simp; omega))))
  have hz14 := HB14.out.size
  simp at hz14
  have K7 := Lib.hid ((((((((((((Blk.new w4 27 #[.int .i64 (rC xs900), .int .i64 (rK xs900), .slice Aq4 nq4 cq4]).on HB5.out).on HB6.out).on HB7.out).away HB8.out (Disj.mk (B := w3.heap.size) (Oq3_lt.mono (by omega)) (fun p hp => by cases hp; show _ ≤ w4.heap.size; omega)).symm).on HB9.out).away HB10.out (Disj.mk (B := w4.heap.size) (Oq4_lt.mono (by omega)) (fun p hp => by cases hp; show _ ≤ w4.heap.size; omega)).symm).on HB11.out).on HB12.out).on HB13.out).alloc _).on HB14.out)
  obtain ⟨k7_0, k7_1, k7_2⟩ := K7.out.c3
  have k7_lt := K7.out.lt
  go_wp2_with (fail)
  refine (laws_heldItem_any _ _ _ _ (((((Oq7.out.below HB11.out (Nat.le_refl _)).below HB12.out (Nat.le_refl _)).below HB13.out (Nat.le_refl _)).alloc _).below HB14.out (Nat.le_refl _)).is (by omega) (by omega) (by omega)).mono ?_
  clear k7_0 k7_1 k7_2 k7_lt
  rintro e w15 ⟨rfl, hb15⟩
  have HB15 := Lib.hid hb15
  clear hb15
  have RB15 := Lib.hid (Below.trans RB14.out (HB15.out.mono RB14.out.size))
  have hz15 := HB15.out.size
  go_wp2_with (fail)
  go_ret
  exact ⟨rfl, RB15.out⟩
end Go.Proofs.Ytopdefkjfneeoaa
