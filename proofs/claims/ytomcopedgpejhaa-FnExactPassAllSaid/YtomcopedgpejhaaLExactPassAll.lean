/-
  The law FnExactPassAll: its walk. (Written by a program of my own off the law's operations.)
-/
/-
-- CALL: i0 i1 i2 i3 W s0 s1
-/
import Derived.Test.YtomcopedgpejhaaBkP
import Derived.Deep.RegionHeld3
import Derived.Deep.DrawnRows
import Derived.Deep.DeepMust
import Derived.Deep.DeepCutAuto
namespace Go.Proofs.Ytomcopedgpejhaa
open Go.RowKit
attribute [local go_sem ↓] Go.wp_at_zero Go.wp_at_succ
set_option maxRecDepth 100000 in
set_option maxHeartbeats 8000000 in
theorem walk_FnExactPassAll {A900 : Option Addr} {n900 c900 : Nat} {xs900 : List Int} {A901 : Option Addr} {n901 c901 : Nat} {xs901 : List Int} (x0 : Int) (x1 : Int) (x2 : Int) (x3 : Int) (w : World) (h900 : IS w A900 n900 c900 xs900) (h901 : IS w A901 n901 c901 xs901) :
    Calls Try.prog 7 #[.agg #[.int .i64 x0, .int .i64 x1, .int .i64 x2, .int .i64 x3], .slice A900 n900 c900, .slice A901 n901 c901] w fun e w' => e = .returned (.bool true) ∧ Below w.heap.size w w' := by
  have hcap900 := h900.cap
  have H900 := Lib.hid h900
  clear h900
  have hcap901 := h901.cap
  have H901 := Lib.hid h901
  clear h901
  rcases Int.lt_or_le (1048576 : Int) (n900 : Int) with hs1 | hs1
  · have hs1' : decide ((1048576 : Int) < (n900 : Int)) = true := by simp; omega
    go_enter Try.func7, Try.ntmps7
    go_wp2_with (fail)
    go_ret
    exact ⟨rfl, by first | exact Below.refl _ _ | exact below_new _ _⟩
  have hs1' : ¬ (1048576 : Int) < (n900 : Int) := by omega
  rcases Int.lt_or_le (1048576 : Int) (n901 : Int) with hs2 | hs2
  · have hs2' : decide ((1048576 : Int) < (n901 : Int)) = true := by simp; omega
    go_enter Try.func7, Try.ntmps7
    go_wp2_with (fail)
    go_ret
    exact ⟨rfl, by first | exact Below.refl _ _ | exact below_new _ _⟩
  have hs2' : ¬ (1048576 : Int) < (n901 : Int) := by omega
  have RB0 : Hid (Below w.heap.size w w) := Lib.hid (Below.refl _ _)
  go_enter Try.func7, Try.ntmps7
  go_wp2_with (fail)
  refine (laws_toBucket_any _ _ _ _ _).mono ?_
  rintro e w1 ⟨rfl, hb1⟩
  have HB1 := Lib.hid hb1
  clear hb1
  have RB1 := Lib.hid (Below.trans (RB0.out.alloc (by have := RB0.out.size; first | omega | (simp; done) | (simp; omega)) _) (HB1.out.mono (by have := RB0.out.size; first | omega | (simp; done) | (simp; omega))))
  have hz1 := HB1.out.size
  simp at hz1
  go_wp2_with (fail)
  refine (laws_toIntS_any _ (H900.out.below RB1.out (Nat.le_refl _)) (by omega)).mono ?_
  rintro e w2 ⟨Aq1, nq1, cq1, rfl, hq1, hb2⟩
  have HB2 := Lib.hid hb2
  clear hb2
  have Oq1 := Lib.hid hq1
  clear hq1
  have Oq1_n : nq1 ≤ 1048576 := (by have h1 := Oq1.out.len; have h2 := H900.out.len; omega)
  have RB2 := Lib.hid (Below.trans RB1.out (HB2.out.mono RB1.out.size))
  have hz2 := HB2.out.size
  have Oq1_lt : Lt Aq1 w2.heap.size := Oq1.out.lt
  go_wp2_with (fail)
  refine (laws_toIntS_any _ (H901.out.below RB2.out (Nat.le_refl _)) (by omega)).mono ?_
  rintro e w3 ⟨Aq2, nq2, cq2, rfl, hq2, hb3⟩
  have HB3 := Lib.hid hb3
  clear hb3
  have Oq2 := Lib.hid hq2
  clear hq2
  have Oq2_n : nq2 ≤ 1048576 := (by have h1 := Oq2.out.len; have h2 := H901.out.len; omega)
  have RB3 := Lib.hid (Below.trans RB2.out (HB3.out.mono RB2.out.size))
  have hz3 := HB3.out.size
  have Oq2_lt : Lt Aq2 w3.heap.size := Oq2.out.lt
  go_wp2_with (fail)
  refine (spec_PassAll_any _ _ _ _ _ (Oq1.out.below HB3.out (Nat.le_refl _)).is Oq2.out.is).mono ?_
  rintro e w4 ⟨Aq3, nq3, cq3, rfl, hq3, hb4⟩
  have HB4 := Lib.hid hb4
  clear hb4
  have Oq3 := Lib.hid hq3
  clear hq3
  have Oq3_n : nq3 ≤ 12 := (by have h1 := Oq3.out.len; have h2 := paL_le x0 x1 x2 x3 xs900 xs901; omega)
  have RB4 := Lib.hid (Below.trans RB3.out (HB4.out.mono RB3.out.size))
  have hz4 := HB4.out.size
  have Oq3_lt : Lt Aq3 w4.heap.size := Oq3.out.lt
  go_wp2_with (fail)
  refine (laws_toIntS_any _ (H900.out.below RB4.out (Nat.le_refl _)) (by omega)).mono ?_
  rintro e w5 ⟨Aq4, nq4, cq4, rfl, hq4, hb5⟩
  have HB5 := Lib.hid hb5
  clear hb5
  have Oq4 := Lib.hid hq4
  clear hq4
  have Oq4_n : nq4 ≤ 1048576 := (by have h1 := Oq4.out.len; have h2 := H900.out.len; omega)
  have RB5 := Lib.hid (Below.trans RB4.out (HB5.out.mono RB4.out.size))
  have hz5 := HB5.out.size
  have Oq4_lt : Lt Aq4 w5.heap.size := Oq4.out.lt
  go_wp2_with (fail)
  refine (laws_toIntS_any _ (H901.out.below RB5.out (Nat.le_refl _)) (by omega)).mono ?_
  rintro e w6 ⟨Aq5, nq5, cq5, rfl, hq5, hb6⟩
  have HB6 := Lib.hid hb6
  clear hb6
  have Oq5 := Lib.hid hq5
  clear hq5
  have Oq5_n : nq5 ≤ 1048576 := (by have h1 := Oq5.out.len; have h2 := H901.out.len; omega)
  have RB6 := Lib.hid (Below.trans RB5.out (HB6.out.mono RB5.out.size))
  have hz6 := HB6.out.size
  have Oq5_lt : Lt Aq5 w6.heap.size := Oq5.out.lt
  have K1 := Lib.hid (((((((Blk.new w 23 #[.int .i64 x0, .int .i64 x1, .int .i64 x2, .int .i64 x3]).on HB1.out).on HB2.out).on HB3.out).on HB4.out).on HB5.out).on HB6.out)
  obtain ⟨k1_0, k1_1, k1_2, k1_3⟩ := K1.out.c4
  have k1_lt := K1.out.lt
  go_wp2_with (fail)
  refine (laws_toBucket_any _ _ _ _ _).mono ?_
  clear k1_0 k1_1 k1_2 k1_3 k1_lt
  rintro e w7 ⟨rfl, hb7⟩
  have HB7 := Lib.hid hb7
  clear hb7
  have RB7 := Lib.hid (Below.trans RB6.out (HB7.out.mono RB6.out.size))
  have hz7 := HB7.out.size
  go_wp2_with (fail)
  refine (impl_PassAll_any _ _ _ _ _ ((Oq4.out.below HB6.out (Nat.le_refl _)).below HB7.out (Nat.le_refl _)).is (Oq5.out.below HB7.out (Nat.le_refl _)).is).mono ?_
  rintro e w8 ⟨Aq6, nq6, cq6, rfl, hq6, hb8⟩
  have HB8 := Lib.hid hb8
  clear hb8
  have Oq6 := Lib.hid hq6
  clear hq6
  have Oq6_n : nq6 ≤ 12 := (by have h1 := Oq6.out.len; have h2 := paL_le x0 x1 x2 x3 xs900 xs901; omega)
  have RB8 := Lib.hid (Below.trans RB7.out (HB8.out.mono RB7.out.size))
  have hz8 := HB8.out.size
  have Oq6_lt : Lt Aq6 w8.heap.size := Oq6.out.lt
  go_wp2_with (fail)
  refine (laws_eqIntS_any _ Oq6.out.is ((((Oq3.out.below HB5.out (Nat.le_refl _)).below HB6.out (Nat.le_refl _)).below HB7.out (Nat.le_refl _)).below HB8.out (Nat.le_refl _)).is).mono ?_
  rintro e w' ⟨rfl, m9, rfl⟩
  obtain ⟨w9, e9⟩ : ∃ v : World, v = w8.drewN m9 := ⟨_, rfl⟩
  rw [← e9]
  have HB9 : Hid (Below w8.heap.size w8 w9) := Lib.hid (by rw [e9]; exact below_drewN (Below.refl _ _) _)
  clear e9
  rw [show decide ((paL x0 x1 x2 x3 xs900 xs901) = (paL x0 x1 x2 x3 xs900 xs901)) = true from decide_eq_true rfl]
  have RB9 := Lib.hid (Below.trans RB8.out (HB9.out.mono RB8.out.size))
  have hz9 := HB9.out.size
  go_wp2_with (fail)
  refine (laws_toIntS_any _ (H900.out.below RB9.out (Nat.le_refl _)) (by omega)).mono ?_
  rintro e w10 ⟨Aq7, nq7, cq7, rfl, hq7, hb10⟩
  have HB10 := Lib.hid hb10
  clear hb10
  have Oq7 := Lib.hid hq7
  clear hq7
  have Oq7_n : nq7 ≤ 1048576 := (by have h1 := Oq7.out.len; have h2 := H900.out.len; omega)
  have RB10 := Lib.hid (Below.trans RB9.out (HB10.out.mono RB9.out.size))
  have hz10 := HB10.out.size
  have Oq7_lt : Lt Aq7 w10.heap.size := Oq7.out.lt
  go_wp2_with (fail)
  refine (laws_eqIntS_any _ (((((Oq4.out.below HB6.out (Nat.le_refl _)).below HB7.out (Nat.le_refl _)).below HB8.out (Nat.le_refl _)).below HB9.out (Nat.le_refl _)).below HB10.out (Nat.le_refl _)).is Oq7.out.is).mono ?_
  rintro e w' ⟨rfl, m11, rfl⟩
  obtain ⟨w11, e11⟩ : ∃ v : World, v = w10.drewN m11 := ⟨_, rfl⟩
  rw [← e11]
  have HB11 : Hid (Below w10.heap.size w10 w11) := Lib.hid (by rw [e11]; exact below_drewN (Below.refl _ _) _)
  clear e11
  rw [show decide (xs900 = xs900) = true from decide_eq_true rfl]
  have RB11 := Lib.hid (Below.trans RB10.out (HB11.out.mono RB10.out.size))
  have hz11 := HB11.out.size
  go_wp2_with (fail)
  refine (laws_toIntS_any _ (H901.out.below RB11.out (Nat.le_refl _)) (by omega)).mono ?_
  rintro e w12 ⟨Aq8, nq8, cq8, rfl, hq8, hb12⟩
  have HB12 := Lib.hid hb12
  clear hb12
  have Oq8 := Lib.hid hq8
  clear hq8
  have Oq8_n : nq8 ≤ 1048576 := (by have h1 := Oq8.out.len; have h2 := H901.out.len; omega)
  have RB12 := Lib.hid (Below.trans RB11.out (HB12.out.mono RB11.out.size))
  have hz12 := HB12.out.size
  have Oq8_lt : Lt Aq8 w12.heap.size := Oq8.out.lt
  go_wp2_with (fail)
  refine (laws_eqIntS_any _ ((((((Oq5.out.below HB7.out (Nat.le_refl _)).below HB8.out (Nat.le_refl _)).below HB9.out (Nat.le_refl _)).below HB10.out (Nat.le_refl _)).below HB11.out (Nat.le_refl _)).below HB12.out (Nat.le_refl _)).is Oq8.out.is).mono ?_
  rintro e w' ⟨rfl, m13, rfl⟩
  obtain ⟨w13, e13⟩ : ∃ v : World, v = w12.drewN m13 := ⟨_, rfl⟩
  rw [← e13]
  have HB13 : Hid (Below w12.heap.size w12 w13) := Lib.hid (by rw [e13]; exact below_drewN (Below.refl _ _) _)
  clear e13
  rw [show decide (xs901 = xs901) = true from decide_eq_true rfl]
  have RB13 := Lib.hid (Below.trans RB12.out (HB13.out.mono RB12.out.size))
  have hz13 := HB13.out.size
  go_wp2_with (fail)
  refine (laws_markIntS_any _ _ ((((((((Oq4.out.below HB6.out (Nat.le_refl _)).below HB7.out (Nat.le_refl _)).below HB8.out (Nat.le_refl _)).below HB9.out (Nat.le_refl _)).below HB10.out (Nat.le_refl _)).below HB11.out (Nat.le_refl _)).below HB12.out (Nat.le_refl _)).below HB13.out (Nat.le_refl _)) (by omega) (by omega) (by omega)).mono ?_
  rintro e w14 ⟨rfl, hq9, hb14⟩
  have HB14 := Lib.hid hb14
  clear hb14
  have Oq9 := Lib.hid hq9
  clear hq9
  have RB14 := Lib.hid (below_row RB13.out HB14.out RB13.out.size (Oq4.out.ge.mono (by first | omega | (simp; done) | (simp; omega))))
  have hz14 := HB14.out.size
  go_wp2_with (fail)
  refine (laws_markIntS_any _ _ ((((((((Oq5.out.below HB7.out (Nat.le_refl _)).below HB8.out (Nat.le_refl _)).below HB9.out (Nat.le_refl _)).below HB10.out (Nat.le_refl _)).below HB11.out (Nat.le_refl _)).below HB12.out (Nat.le_refl _)).below HB13.out (Nat.le_refl _)).away HB14.out (Disj.mk (B := w5.heap.size) (Oq4_lt.mono (by omega)) (Oq5.out.ge.mono (by first | omega | (simp; done) | (simp; omega)))).symm) (by omega) (by omega) (by omega)).mono ?_
  rintro e w15 ⟨rfl, hq10, hb15⟩
  have HB15 := Lib.hid hb15
  clear hb15
  have Oq10 := Lib.hid hq10
  clear hq10
  have RB15 := Lib.hid (below_row RB14.out HB15.out RB14.out.size (Oq5.out.ge.mono (by first | omega | (simp; done) | (simp; omega))))
  have hz15 := HB15.out.size
  go_wp2_with (fail)
  refine (laws_eqIntS_any _ (((((((Oq6.out.below HB9.out (Nat.le_refl _)).below HB10.out (Nat.le_refl _)).below HB11.out (Nat.le_refl _)).below HB12.out (Nat.le_refl _)).below HB13.out (Nat.le_refl _)).away HB14.out (Disj.mk (B := w5.heap.size) (Oq4_lt.mono (by omega)) (Oq6.out.ge.mono (by first | omega | (simp; done) | (simp; omega)))).symm).away HB15.out (Disj.mk (B := w6.heap.size) (Oq5_lt.mono (by omega)) (Oq6.out.ge.mono (by first | omega | (simp; done) | (simp; omega)))).symm).is (((((((((((Oq3.out.below HB5.out (Nat.le_refl _)).below HB6.out (Nat.le_refl _)).below HB7.out (Nat.le_refl _)).below HB8.out (Nat.le_refl _)).below HB9.out (Nat.le_refl _)).below HB10.out (Nat.le_refl _)).below HB11.out (Nat.le_refl _)).below HB12.out (Nat.le_refl _)).below HB13.out (Nat.le_refl _)).away HB14.out (Disj.mk (B := w4.heap.size) (Oq3_lt.mono (by omega)) (Oq9.out.ge.mono (by first | omega | (simp; done) | (simp; omega))))).away HB15.out (Disj.mk (B := w4.heap.size) (Oq3_lt.mono (by omega)) (Oq10.out.ge.mono (by first | omega | (simp; done) | (simp; omega))))).is).mono ?_
  rintro e w' ⟨rfl, m16, rfl⟩
  obtain ⟨w16, e16⟩ : ∃ v : World, v = w15.drewN m16 := ⟨_, rfl⟩
  rw [← e16]
  have HB16 : Hid (Below w15.heap.size w15 w16) := Lib.hid (by rw [e16]; exact below_drewN (Below.refl _ _) _)
  clear e16
  rw [show decide ((paL x0 x1 x2 x3 xs900 xs901) = (paL x0 x1 x2 x3 xs900 xs901)) = true from decide_eq_true rfl]
  have RB16 := Lib.hid (Below.trans RB15.out (HB16.out.mono RB15.out.size))
  have hz16 := HB16.out.size
  go_wp2_with (fail)
  refine (laws_markIntS_any _ _ ((((((((Oq6.out.below HB9.out (Nat.le_refl _)).below HB10.out (Nat.le_refl _)).below HB11.out (Nat.le_refl _)).below HB12.out (Nat.le_refl _)).below HB13.out (Nat.le_refl _)).away HB14.out (Disj.mk (B := w5.heap.size) (Oq4_lt.mono (by omega)) (Oq6.out.ge.mono (by first | omega | (simp; done) | (simp; omega)))).symm).away HB15.out (Disj.mk (B := w6.heap.size) (Oq5_lt.mono (by omega)) (Oq6.out.ge.mono (by first | omega | (simp; done) | (simp; omega)))).symm).below HB16.out (Nat.le_refl _)) (by omega) (by omega) (by omega)).mono ?_
  rintro e w17 ⟨rfl, hq11, hb17⟩
  have HB17 := Lib.hid hb17
  clear hb17
  have Oq11 := Lib.hid hq11
  clear hq11
  have RB17 := Lib.hid (below_row RB16.out HB17.out RB16.out.size (Oq6.out.ge.mono (by first | omega | (simp; done) | (simp; omega))))
  have hz17 := HB17.out.size
  go_wp2_with (fail)
  refine (laws_heldIntS_any _ _ Oq11.out.is (by omega) (by omega) (by omega)).mono ?_
  rintro e w' ⟨rfl, rfl⟩
  have K2 := Lib.hid ((((((((((((((((((Blk.new w 23 #[.int .i64 x0, .int .i64 x1, .int .i64 x2, .int .i64 x3]).on HB1.out).on HB2.out).on HB3.out).on HB4.out).on HB5.out).on HB6.out).on HB7.out).on HB8.out).on HB9.out).on HB10.out).on HB11.out).on HB12.out).on HB13.out).away HB14.out (Disj.mk (B := w.heap.size + 1) (fun p hp => by cases hp; show w.heap.size < _; omega) (Oq9.out.ge.mono (by first | omega | (simp; done) | (simp; omega))))).away HB15.out (Disj.mk (B := w.heap.size + 1) (fun p hp => by cases hp; show w.heap.size < _; omega) (Oq10.out.ge.mono (by first | omega | (simp; done) | (simp; omega))))).on HB16.out).away HB17.out (Disj.mk (B := w.heap.size + 1) (fun p hp => by cases hp; show w.heap.size < _; omega) (Oq11.out.ge.mono (by first | omega | (simp; done) | (simp; omega)))))
  obtain ⟨k2_0, k2_1, k2_2, k2_3⟩ := K2.out.c4
  have k2_lt := K2.out.lt
  go_wp2_with (fail)
  refine (laws_toBucket_any _ _ _ _ _).mono ?_
  clear k2_0 k2_1 k2_2 k2_3 k2_lt
  rintro e w18 ⟨rfl, hb18⟩
  have HB18 := Lib.hid hb18
  clear hb18
  have RB18 := Lib.hid (Below.trans RB17.out (HB18.out.mono RB17.out.size))
  have hz18 := HB18.out.size
  go_wp2_with (fail)
  refine (laws_toIntS_any _ (H900.out.below RB18.out (Nat.le_refl _)) (by omega)).mono ?_
  rintro e w19 ⟨Aq12, nq12, cq12, rfl, hq12, hb19⟩
  have HB19 := Lib.hid hb19
  clear hb19
  have Oq12 := Lib.hid hq12
  clear hq12
  have Oq12_n : nq12 ≤ 1048576 := (by have h1 := Oq12.out.len; have h2 := H900.out.len; omega)
  have RB19 := Lib.hid (Below.trans RB18.out (HB19.out.mono RB18.out.size))
  have hz19 := HB19.out.size
  have Oq12_lt : Lt Aq12 w19.heap.size := Oq12.out.lt
  go_wp2_with (fail)
  refine (laws_toIntS_any _ (H901.out.below RB19.out (Nat.le_refl _)) (by omega)).mono ?_
  rintro e w20 ⟨Aq13, nq13, cq13, rfl, hq13, hb20⟩
  have HB20 := Lib.hid hb20
  clear hb20
  have Oq13 := Lib.hid hq13
  clear hq13
  have Oq13_n : nq13 ≤ 1048576 := (by have h1 := Oq13.out.len; have h2 := H901.out.len; omega)
  have RB20 := Lib.hid (Below.trans RB19.out (HB20.out.mono RB19.out.size))
  have hz20 := HB20.out.size
  have Oq13_lt : Lt Aq13 w20.heap.size := Oq13.out.lt
  go_wp2_with (fail)
  refine (impl_PassAll_any _ _ _ _ _ (Oq12.out.below HB20.out (Nat.le_refl _)).is Oq13.out.is).mono ?_
  rintro e w21 ⟨Aq14, nq14, cq14, rfl, hq14, hb21⟩
  have HB21 := Lib.hid hb21
  clear hb21
  have Oq14 := Lib.hid hq14
  clear hq14
  have Oq14_n : nq14 ≤ 12 := (by have h1 := Oq14.out.len; have h2 := paL_le x0 x1 x2 x3 xs900 xs901; omega)
  have RB21 := Lib.hid (Below.trans RB20.out (HB21.out.mono RB20.out.size))
  have hz21 := HB21.out.size
  have Oq14_lt : Lt Aq14 w21.heap.size := Oq14.out.lt
  go_wp2_with (fail)
  refine (laws_eqIntS_any _ Oq14.out.is (((((((((((((((((Oq3.out.below HB5.out (Nat.le_refl _)).below HB6.out (Nat.le_refl _)).below HB7.out (Nat.le_refl _)).below HB8.out (Nat.le_refl _)).below HB9.out (Nat.le_refl _)).below HB10.out (Nat.le_refl _)).below HB11.out (Nat.le_refl _)).below HB12.out (Nat.le_refl _)).below HB13.out (Nat.le_refl _)).away HB14.out (Disj.mk (B := w4.heap.size) (Oq3_lt.mono (by omega)) (Oq9.out.ge.mono (by first | omega | (simp; done) | (simp; omega))))).away HB15.out (Disj.mk (B := w4.heap.size) (Oq3_lt.mono (by omega)) (Oq10.out.ge.mono (by first | omega | (simp; done) | (simp; omega))))).below HB16.out (Nat.le_refl _)).away HB17.out (Disj.mk (B := w4.heap.size) (Oq3_lt.mono (by omega)) (Oq11.out.ge.mono (by first | omega | (simp; done) | (simp; omega))))).below HB18.out (Nat.le_refl _)).below HB19.out (Nat.le_refl _)).below HB20.out (Nat.le_refl _)).below HB21.out (Nat.le_refl _)).is).mono ?_
  rintro e w' ⟨rfl, m22, rfl⟩
  obtain ⟨w22, e22⟩ : ∃ v : World, v = w21.drewN m22 := ⟨_, rfl⟩
  rw [← e22]
  have HB22 : Hid (Below w21.heap.size w21 w22) := Lib.hid (by rw [e22]; exact below_drewN (Below.refl _ _) _)
  clear e22
  rw [show decide ((paL x0 x1 x2 x3 xs900 xs901) = (paL x0 x1 x2 x3 xs900 xs901)) = true from decide_eq_true rfl]
  have RB22 := Lib.hid (Below.trans RB21.out (HB22.out.mono RB21.out.size))
  have hz22 := HB22.out.size
  go_wp2_with (fail)
  refine (laws_heldIntS_any _ _ (((((Oq11.out.below HB18.out (Nat.le_refl _)).below HB19.out (Nat.le_refl _)).below HB20.out (Nat.le_refl _)).below HB21.out (Nat.le_refl _)).below HB22.out (Nat.le_refl _)).is (by omega) (by omega) (by omega)).mono ?_
  rintro e w' ⟨rfl, rfl⟩
  go_wp2_with (fail)
  go_ret
  exact ⟨rfl, RB22.out⟩
end Go.Proofs.Ytomcopedgpejhaa
