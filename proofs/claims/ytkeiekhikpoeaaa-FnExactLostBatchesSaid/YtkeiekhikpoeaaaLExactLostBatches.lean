/-
  The law FnExactLostBatches: its walk. (Written by a program of my own off the law's operations.)
-/
/-
-- CALL: i0 i1 i2 W s0
-/
import Derived.Test.YtkeiekhikpoeaaaWin
import Derived.Test.YtkeiekhikpoeaaaWiT
import Derived.Test.YtkeiekhikpoeaaaWiU
import Derived.Deep.RegionHeld3
import Derived.Deep.DrawnRows
import Derived.Deep.DeepMust
import Derived.Deep.DeepCutAuto
namespace Go.Proofs.Ytkeiekhikpoeaaa
open Go.RowKit
attribute [local go_sem ↓] Go.wp_at_zero Go.wp_at_succ
set_option maxRecDepth 100000 in
set_option maxHeartbeats 8000000 in
theorem walk_FnExactLostBatches {A900 : Option Addr} {n900 c900 : Nat} {xs900 : List Int} (x0 : Int) (x1 : Int) (x2 : Int) (w : World) (h900 : IS w A900 n900 c900 xs900) :
    Calls Try.prog 7 #[.agg #[.int .i64 x0, .int .i64 x1, .slice A900 n900 c900], .int .i64 x2] w fun e w' => e = .returned (.bool true) ∧ Below w.heap.size w w' := by
  have hcap900 := h900.cap
  have H900 := Lib.hid h900
  clear h900
  rcases Int.lt_or_le (1048576 : Int) (n900 : Int) with hs1 | hs1
  · have he1 := Lib.hid (szL_lo hs1)
    have RB0 : Hid (Below w.heap.size w w) := Lib.hid (Below.refl _ _)
    go_enter Try.func7, Try.ntmps7
    go_wp2_with (fail)
    refine (laws_szWindow_any _ _ _ _ hcap900 (by omega) (by omega)).mono ?_
    rintro e w1 ⟨rfl, hb1⟩
    have HB1 := Lib.hid hb1
    clear hb1
    rw [he1.out]
    have RB1 := Lib.hid (Below.trans (RB0.out.alloc (by have := RB0.out.size; first | omega | (simp; done) | (simp; omega)) _) (HB1.out.mono (by have := RB0.out.size; first | omega | (simp; done) | (simp; omega))))
    have hz1 := HB1.out.size
    simp at hz1
    go_wp2_with (fail)
    go_ret
    exact ⟨rfl, RB1.out⟩
  have he1 := Lib.hid (szL_hi hs1)
  have hx1 : 0 ≤ (1048576 : Int) - (n900 : Int) := by omega
  have RB0 : Hid (Below w.heap.size w w) := Lib.hid (Below.refl _ _)
  go_enter Try.func7, Try.ntmps7
  go_wp2_with (fail)
  refine (laws_szWindow_any _ _ _ _ hcap900 (by omega) (by omega)).mono ?_
  rintro e w1 ⟨rfl, hb1⟩
  have HB1 := Lib.hid hb1
  clear hb1
  rw [he1.out]
  have RB1 := Lib.hid (Below.trans (RB0.out.alloc (by have := RB0.out.size; first | omega | (simp; done) | (simp; omega)) _) (HB1.out.mono (by have := RB0.out.size; first | omega | (simp; done) | (simp; omega))))
  have hz1 := HB1.out.size
  simp at hz1
  have K1 := Lib.hid ((Blk.new w 24 #[.int .i64 x0, .int .i64 x1, .slice A900 n900 c900]).on HB1.out)
  obtain ⟨k1_0, k1_1, k1_2⟩ := K1.out.c3
  have k1_lt := K1.out.lt
  go_wp2_with (fail)
  refine (laws_toWindow_any _ _ _ (H900.out.below RB1.out (Nat.le_refl _)) (by omega)).mono ?_
  clear k1_0 k1_1 k1_2 k1_lt
  rintro e w2 ⟨Aq1, nq1, cq1, rfl, hq1, hb2⟩
  have HB2 := Lib.hid hb2
  clear hb2
  have Oq1 := Lib.hid hq1
  clear hq1
  have Oq1_n : nq1 ≤ 1048576 := (by have h1 := Oq1.out.len; have h2 := H900.out.len; omega)
  have RB2 := Lib.hid (Below.trans RB1.out (HB2.out.mono RB1.out.size))
  have hz2 := HB2.out.size
  have Oq1_lt : Lt Aq1 w2.heap.size := Oq1.out.lt
  go_wp2_with (fail)
  refine (spec_LostBatches_any _ _ _ _ Oq1.out.is).mono ?_
  rintro e w3 ⟨Aq2, nq2, cq2, rfl, hq2, hb3⟩
  have HB3 := Lib.hid hb3
  clear hb3
  have Oq2 := Lib.hid hq2
  clear hq2
  have Oq2_n : nq2 ≤ 8 := (by have h1 := Oq2.out.len; have h2 := lostL_le x0 x1 xs900 x2; omega)
  have RB3 := Lib.hid (Below.trans RB2.out (HB3.out.mono RB2.out.size))
  have hz3 := HB3.out.size
  have Oq2_lt : Lt Aq2 w3.heap.size := Oq2.out.lt
  have K2 := Lib.hid ((((Blk.new w 24 #[.int .i64 x0, .int .i64 x1, .slice A900 n900 c900]).on HB1.out).on HB2.out).on HB3.out)
  obtain ⟨k2_0, k2_1, k2_2⟩ := K2.out.c3
  have k2_lt := K2.out.lt
  go_wp2_with (fail)
  refine (laws_toWindow_any _ _ _ (H900.out.below RB3.out (Nat.le_refl _)) (by omega)).mono ?_
  clear k2_0 k2_1 k2_2 k2_lt
  rintro e w4 ⟨Aq3, nq3, cq3, rfl, hq3, hb4⟩
  have HB4 := Lib.hid hb4
  clear hb4
  have Oq3 := Lib.hid hq3
  clear hq3
  have Oq3_n : nq3 ≤ 1048576 := (by have h1 := Oq3.out.len; have h2 := H900.out.len; omega)
  have RB4 := Lib.hid (Below.trans RB3.out (HB4.out.mono RB3.out.size))
  have hz4 := HB4.out.size
  have Oq3_lt : Lt Aq3 w4.heap.size := Oq3.out.lt
  go_wp2_with (fail)
  refine (impl_LostBatches_any _ _ _ _ (Oq3.out.alloc _).is).mono ?_
  rintro e w5 ⟨Aq4, nq4, cq4, rfl, hq4, hb5⟩
  have HB5 := Lib.hid hb5
  clear hb5
  have Oq4 := Lib.hid hq4
  clear hq4
  have Oq4_n : nq4 ≤ 8 := (by have h1 := Oq4.out.len; have h2 := lostL_le x0 x1 xs900 x2; omega)
  have RB5 := Lib.hid (Below.trans (RB4.out.alloc (by have := RB4.out.size; first | omega | (simp; done) | (simp; omega)) _) (HB5.out.mono (by have := RB4.out.size; first | omega | (simp; done) | (simp; omega))))
  have hz5 := HB5.out.size
  simp at hz5
  have Oq4_lt : Lt Aq4 w5.heap.size := Oq4.out.lt
  go_wp2_with (fail)
  refine (laws_eqIntS_any _ Oq4.out.is (((Oq2.out.below HB4.out (Nat.le_refl _)).alloc _).below HB5.out (Nat.le_refl _)).is).mono ?_
  rintro e w' ⟨rfl, m6, rfl⟩
  obtain ⟨w6, e6⟩ : ∃ v : World, v = w5.drewN m6 := ⟨_, rfl⟩
  rw [← e6]
  have HB6 : Hid (Below w5.heap.size w5 w6) := Lib.hid (by rw [e6]; exact below_drewN (Below.refl _ _) _)
  clear e6
  rw [show decide ((lostL x0 x1 xs900 x2) = (lostL x0 x1 xs900 x2)) = true from decide_eq_true rfl]
  have RB6 := Lib.hid (Below.trans RB5.out (HB6.out.mono RB5.out.size))
  have hz6 := HB6.out.size
  go_wp2_with (fail)
  have K3 := Lib.hid (((Blk.new w4 27 #[.int .i64 x0, .int .i64 x1, .slice Aq3 nq3 cq3]).on HB5.out).on HB6.out)
  obtain ⟨k3_0, k3_1, k3_2⟩ := K3.out.c3
  have K4 := Lib.hid ((((((((Blk.new w 24 #[.int .i64 x0, .int .i64 x1, .slice A900 n900 c900]).on HB1.out).on HB2.out).on HB3.out).on HB4.out).alloc _).on HB5.out).on HB6.out)
  obtain ⟨k4_0, k4_1, k4_2⟩ := K4.out.c3
  go_region_held3 (fun w' => w'.cell? ⟨w4.heap.size, 0, none⟩ = some (.int .i64 x0) ∧ w'.cell? ⟨w4.heap.size, 1, none⟩ = some (.int .i64 x1) ∧ w'.cell? ⟨w4.heap.size, 2, none⟩ = some (.slice Aq3 nq3 cq3) ∧ w'.cell? ⟨w.heap.size, 0, none⟩ = some (.int .i64 x0) ∧ w'.cell? ⟨w.heap.size, 1, none⟩ = some (.int .i64 x1) ∧ w'.cell? ⟨w.heap.size, 2, none⟩ = some (.slice A900 n900 c900)) (first | exact S2 | exact S1 | go_keep) (first
    | (go_at_call 10; go_must (refine (laws_toWindow_any _ _ _ (H900.out.below RB6.out (Nat.le_refl _)).drew (by omega)).mono ?_; rintro e w7 ⟨Aq5, nq5, cq5, rfl, hq5, hb7⟩; have HB7 := Lib.hid hb7; clear hb7; have Oq5 := Lib.hid hq5; clear hq5; have Oq5_n : nq5 ≤ 1048576 := (by have h1 := Oq5.out.len; have h2 := H900.out.len; omega); have RB7 := Lib.hid (Below.trans RB6.out.drew (HB7.out.mono RB6.out.size)); have hz7 := HB7.out.size; have Oq5_lt : Lt Aq5 w7.heap.size := Oq5.out.lt; have K5 := Lib.hid ((((Blk.new w4 27 #[.int .i64 x0, .int .i64 x1, .slice Aq3 nq3 cq3]).on HB5.out).on HB6.out).drew.on HB7.out); have K6 := Lib.hid (((((((((Blk.new w 24 #[.int .i64 x0, .int .i64 x1, .slice A900 n900 c900]).on HB1.out).on HB2.out).on HB3.out).on HB4.out).alloc _).on HB5.out).on HB6.out).drew.on HB7.out); have S1 := (And.intro K5.out.c3.1 (And.intro K5.out.c3.2.1 (And.intro K5.out.c3.2.2 (And.intro K6.out.c3.1 (And.intro K6.out.c3.2.1 K6.out.c3.2.2)))))))
    | (go_at_call 12; go_must (refine (laws_eqWindow_any _ _ _ _ _ ((((Oq3.out.alloc _).below HB5.out (Nat.le_refl _)).below HB6.out (Nat.le_refl _)).drew.below HB7.out (Nat.le_refl _)).is Oq5.out.is).mono ?_; rintro e w8 ⟨rfl, hb8⟩; have HB8 := Lib.hid hb8; clear hb8; rw [eqI_refl]; have RB8 := Lib.hid (Below.trans RB7.out (HB8.out.mono RB7.out.size)); have hz8 := HB8.out.size; have K7 := Lib.hid (((((Blk.new w4 27 #[.int .i64 x0, .int .i64 x1, .slice Aq3 nq3 cq3]).on HB5.out).on HB6.out).drew.on HB7.out).on HB8.out); have K8 := Lib.hid ((((((((((Blk.new w 24 #[.int .i64 x0, .int .i64 x1, .slice A900 n900 c900]).on HB1.out).on HB2.out).on HB3.out).on HB4.out).alloc _).on HB5.out).on HB6.out).drew.on HB7.out).on HB8.out); have S2 := (And.intro K7.out.c3.1 (And.intro K7.out.c3.2.1 (And.intro K7.out.c3.2.2 (And.intro K8.out.c3.1 (And.intro K8.out.c3.2.1 K8.out.c3.2.2))))))))
  clear k3_0 k3_1 k3_2 k4_0 k4_1 k4_2
  have K9 := Lib.hid (((((Blk.new w4 27 #[.int .i64 x0, .int .i64 x1, .slice Aq3 nq3 cq3]).on HB5.out).on HB6.out).drew.on HB7.out).on HB8.out)
  obtain ⟨k9_0, k9_1, k9_2⟩ := K9.out.c3
  have k9_lt := K9.out.lt
  go_wp2_with (fail)
  refine (laws_markWindow_any _ _ _ _ (((((Oq3.out.alloc _).below HB5.out (Nat.le_refl _)).below HB6.out (Nat.le_refl _)).drew.below HB7.out (Nat.le_refl _)).below HB8.out (Nat.le_refl _)) (by omega) (by omega) (by omega)).mono ?_
  clear k9_0 k9_1 k9_2 k9_lt
  rintro e w9 ⟨rfl, hq6, hb9⟩
  have HB9 := Lib.hid hb9
  clear hb9
  have Oq6 := Lib.hid hq6
  clear hq6
  have RB9 := Lib.hid (below_row RB8.out HB9.out RB8.out.size (Oq3.out.ge.mono (by first | omega | (simp; done) | (simp; omega))))
  have hz9 := HB9.out.size
  go_wp2_with (fail)
  refine (laws_eqIntS_any _ ((((Oq4.out.below HB6.out (Nat.le_refl _)).drew.below HB7.out (Nat.le_refl _)).below HB8.out (Nat.le_refl _)).away HB9.out (Disj.mk (B := w4.heap.size) (Oq3_lt.mono (by omega)) (Oq4.out.ge.mono (by first | omega | (simp; done) | (simp; omega)))).symm).is (((((((Oq2.out.below HB4.out (Nat.le_refl _)).alloc _).below HB5.out (Nat.le_refl _)).below HB6.out (Nat.le_refl _)).drew.below HB7.out (Nat.le_refl _)).below HB8.out (Nat.le_refl _)).away HB9.out (Disj.mk (B := w3.heap.size) (Oq2_lt.mono (by omega)) (Oq6.out.ge.mono (by first | omega | (simp; done) | (simp; omega))))).is).mono ?_
  rintro e w' ⟨rfl, m10, rfl⟩
  obtain ⟨w10, e10⟩ : ∃ v : World, v = w9.drewN m10 := ⟨_, rfl⟩
  rw [← e10]
  have HB10 : Hid (Below w9.heap.size w9 w10) := Lib.hid (by rw [e10]; exact below_drewN (Below.refl _ _) _)
  clear e10
  rw [show decide ((lostL x0 x1 xs900 x2) = (lostL x0 x1 xs900 x2)) = true from decide_eq_true rfl]
  have RB10 := Lib.hid (Below.trans RB9.out (HB10.out.mono RB9.out.size))
  have hz10 := HB10.out.size
  go_wp2_with (fail)
  refine (laws_markIntS_any _ _ (((((Oq4.out.below HB6.out (Nat.le_refl _)).drew.below HB7.out (Nat.le_refl _)).below HB8.out (Nat.le_refl _)).away HB9.out (Disj.mk (B := w4.heap.size) (Oq3_lt.mono (by omega)) (Oq4.out.ge.mono (by first | omega | (simp; done) | (simp; omega)))).symm).below HB10.out (Nat.le_refl _)) (by omega) (by omega) (by omega)).mono ?_
  rintro e w11 ⟨rfl, hq7, hb11⟩
  have HB11 := Lib.hid hb11
  clear hb11
  have Oq7 := Lib.hid hq7
  clear hq7
  have RB11 := Lib.hid (below_row RB10.out HB11.out RB10.out.size (Oq4.out.ge.mono (by first | omega | (simp; done) | (simp; omega))))
  have hz11 := HB11.out.size
  go_wp2_with (fail)
  refine (laws_heldIntS_any _ _ Oq7.out.is (by omega) (by omega) (by omega)).mono ?_
  rintro e w' ⟨rfl, rfl⟩
  have K10 := Lib.hid (((((((((((((Blk.new w 24 #[.int .i64 x0, .int .i64 x1, .slice A900 n900 c900]).on HB1.out).on HB2.out).on HB3.out).on HB4.out).alloc _).on HB5.out).on HB6.out).drew.on HB7.out).on HB8.out).away HB9.out (Disj.mk (B := w.heap.size + 1) (fun p hp => by cases hp; show w.heap.size < _; omega) (Oq6.out.ge.mono (by first | omega | (simp; done) | (simp; omega))))).on HB10.out).away HB11.out (Disj.mk (B := w.heap.size + 1) (fun p hp => by cases hp; show w.heap.size < _; omega) (Oq7.out.ge.mono (by first | omega | (simp; done) | (simp; omega)))))
  obtain ⟨k10_0, k10_1, k10_2⟩ := K10.out.c3
  have k10_lt := K10.out.lt
  go_wp2_with (fail)
  refine (laws_toWindow_any _ _ _ (H900.out.below RB11.out (Nat.le_refl _)) (by omega)).mono ?_
  clear k10_0 k10_1 k10_2 k10_lt
  rintro e w12 ⟨Aq8, nq8, cq8, rfl, hq8, hb12⟩
  have HB12 := Lib.hid hb12
  clear hb12
  have Oq8 := Lib.hid hq8
  clear hq8
  have Oq8_n : nq8 ≤ 1048576 := (by have h1 := Oq8.out.len; have h2 := H900.out.len; omega)
  have RB12 := Lib.hid (Below.trans RB11.out (HB12.out.mono RB11.out.size))
  have hz12 := HB12.out.size
  have Oq8_lt : Lt Aq8 w12.heap.size := Oq8.out.lt
  go_wp2_with (fail)
  refine (impl_LostBatches_any _ _ _ _ Oq8.out.is).mono ?_
  rintro e w13 ⟨Aq9, nq9, cq9, rfl, hq9, hb13⟩
  have HB13 := Lib.hid hb13
  clear hb13
  have Oq9 := Lib.hid hq9
  clear hq9
  have Oq9_n : nq9 ≤ 8 := (by have h1 := Oq9.out.len; have h2 := lostL_le x0 x1 xs900 x2; omega)
  have RB13 := Lib.hid (Below.trans RB12.out (HB13.out.mono RB12.out.size))
  have hz13 := HB13.out.size
  have Oq9_lt : Lt Aq9 w13.heap.size := Oq9.out.lt
  go_wp2_with (fail)
  refine (laws_eqIntS_any _ Oq9.out.is (((((((((((Oq2.out.below HB4.out (Nat.le_refl _)).alloc _).below HB5.out (Nat.le_refl _)).below HB6.out (Nat.le_refl _)).drew.below HB7.out (Nat.le_refl _)).below HB8.out (Nat.le_refl _)).away HB9.out (Disj.mk (B := w3.heap.size) (Oq2_lt.mono (by omega)) (Oq6.out.ge.mono (by first | omega | (simp; done) | (simp; omega))))).below HB10.out (Nat.le_refl _)).away HB11.out (Disj.mk (B := w3.heap.size) (Oq2_lt.mono (by omega)) (Oq7.out.ge.mono (by first | omega | (simp; done) | (simp; omega))))).below HB12.out (Nat.le_refl _)).below HB13.out (Nat.le_refl _)).is).mono ?_
  rintro e w' ⟨rfl, m14, rfl⟩
  obtain ⟨w14, e14⟩ : ∃ v : World, v = w13.drewN m14 := ⟨_, rfl⟩
  rw [← e14]
  have HB14 : Hid (Below w13.heap.size w13 w14) := Lib.hid (by rw [e14]; exact below_drewN (Below.refl _ _) _)
  clear e14
  rw [show decide ((lostL x0 x1 xs900 x2) = (lostL x0 x1 xs900 x2)) = true from decide_eq_true rfl]
  have RB14 := Lib.hid (Below.trans RB13.out (HB14.out.mono RB13.out.size))
  have hz14 := HB14.out.size
  go_wp2_with (fail)
  refine (laws_heldIntS_any _ _ (((Oq7.out.below HB12.out (Nat.le_refl _)).below HB13.out (Nat.le_refl _)).below HB14.out (Nat.le_refl _)).is (by omega) (by omega) (by omega)).mono ?_
  rintro e w' ⟨rfl, rfl⟩
  go_wp2_with (fail)
  go_ret
  exact ⟨rfl, RB14.out⟩
end Go.Proofs.Ytkeiekhikpoeaaa
