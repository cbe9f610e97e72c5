/-
  The law FnExactAllocBlock: its walk. (Written by a program of my own off the law's operations.)
-/
/-
-- CALL: i0 i1 i2 W s0
-/
import Derived.Test.YtleoncjdhlomaaaArW
import Derived.Test.YtleoncjdhlomaaaArR
import Derived.Deep.RegionHeld3
import Derived.Deep.DrawnRows
import Derived.Deep.DeepMust
import Derived.Deep.DeepCutAuto
namespace Go.Proofs.Ytleoncjdhlomaaa
open Go.RowKit
attribute [local go_sem ↓] Go.wp_at_zero Go.wp_at_succ
set_option maxRecDepth 100000 in
set_option maxHeartbeats 8000000 in
theorem walk_FnExactAllocBlock {A900 : Option Addr} {n900 c900 : Nat} {xs900 : List Tr} (x0 : Int) (x1 : Int) (x2 : Int) (w : World) (h900 : TS w A900 n900 c900 xs900) :
    Calls Try.prog 13 #[.agg #[.int .i64 x0, .slice A900 n900 c900], .int .i64 x1, .int .i64 x2] w fun e w' => e = .returned (.bool true) ∧ Below w.heap.size w w' := by
  have hcap900 := h900.cap
  have H900 := Lib.hid h900
  clear h900
  rcases Int.lt_or_le (1048576 : Int) (n900 : Int) with hs1 | hs1
  · have he1 := Lib.hid (szL_lo hs1)
    have RB0 : Hid (Below w.heap.size w w) := Lib.hid (Below.refl _ _)
    go_enter Try.func13, Try.ntmps13
    go_wp2_with (fail)
    refine (laws_szArena_any _ _ _ hcap900 (by omega) (by omega)).mono ?_
    rintro e w1 ⟨rfl, hb1⟩
    have HB1 := Lib.hid hb1
    clear hb1
    rw [he1.out]
    have RB1 := Lib.hid (Below.trans (RB0.out.alloc (by have := RB0.out.size; first | omega | (simp; done) | (simp; omega)) _) (HB1.out.mono (by have := RB0.out.size; first | omega | (simp; done) | (simp; omega))))
    have hz1 := HB1.out.size
    simp at hz1
    go_wp2_with (fail)
    go_ret
    exact ⟨rfl, RB1.out⟩
  have he1 := Lib.hid (szL_hi hs1)
  have hx1 : 0 ≤ (1048576 : Int) - (n900 : Int) := by omega
  have RB0 : Hid (Below w.heap.size w w) := Lib.hid (Below.refl _ _)
  go_enter Try.func13, Try.ntmps13
  go_wp2_with (fail)
  refine (laws_szArena_any _ _ _ hcap900 (by omega) (by omega)).mono ?_
  rintro e w1 ⟨rfl, hb1⟩
  have HB1 := Lib.hid hb1
  clear hb1
  rw [he1.out]
  have RB1 := Lib.hid (Below.trans (RB0.out.alloc (by have := RB0.out.size; first | omega | (simp; done) | (simp; omega)) _) (HB1.out.mono (by have := RB0.out.size; first | omega | (simp; done) | (simp; omega))))
  have hz1 := HB1.out.size
  simp at hz1
  have K1 := Lib.hid ((Blk.new w 43 #[.int .i64 x0, .slice A900 n900 c900]).on HB1.out)
  obtain ⟨k1_0, k1_1⟩ := K1.out.c2
  have k1_lt := K1.out.lt
  go_wp2_with (fail)
  refine (laws_toArena_any _ _ (H900.out.below RB1.out (Nat.le_refl _)) (by omega)).mono ?_
  clear k1_0 k1_1 k1_lt
  rintro e w2 ⟨Aq1, nq1, cq1, rfl, hq1, hb2⟩
  have HB2 := Lib.hid hb2
  clear hb2
  have Oq1 := Lib.hid hq1
  clear hq1
  have Oq1_n : nq1 ≤ 1048576 := (by have h1 := Oq1.out.len; have h2 := H900.out.len; omega)
  have RB2 := Lib.hid (Below.trans RB1.out (HB2.out.mono RB1.out.size))
  have hz2 := HB2.out.size
  have Oq1_lt : Lt Aq1 w2.heap.size := Oq1.out.lt
  go_wp2_with (fail)
  refine (spec_AllocBlock_any _ _ _ _ Oq1.out.ts).mono ?_
  rintro e w3 ⟨Aq2, nq2, cq2, rfl, hq2, hb3⟩
  have HB3 := Lib.hid hb3
  clear hb3
  have Oq2 := Lib.hid hq2
  clear hq2
  have Oq2_n : nq2 ≤ 10 := (by have h1 := Oq2.out.len; have h2 := alX_le x0 xs900 x1 x2; omega)
  have RB3 := Lib.hid (Below.trans RB2.out (HB3.out.mono RB2.out.size))
  have hz3 := HB3.out.size
  have Oq2_lt : Lt Aq2 w3.heap.size := Oq2.out.lt
  have K2 := Lib.hid ((((Blk.new w 43 #[.int .i64 x0, .slice A900 n900 c900]).on HB1.out).on HB2.out).on HB3.out)
  obtain ⟨k2_0, k2_1⟩ := K2.out.c2
  have k2_lt := K2.out.lt
  go_wp2_with (fail)
  refine (laws_toArena_any _ _ ((H900.out.below RB3.out (Nat.le_refl _)).alloc _) (by omega)).mono ?_
  clear k2_0 k2_1 k2_lt
  rintro e w4 ⟨Aq3, nq3, cq3, rfl, hq3, hb4⟩
  have HB4 := Lib.hid hb4
  clear hb4
  have Oq3 := Lib.hid hq3
  clear hq3
  have Oq3_n : nq3 ≤ 1048576 := (by have h1 := Oq3.out.len; have h2 := H900.out.len; omega)
  have RB4 := Lib.hid (Below.trans (RB3.out.alloc (by have := RB3.out.size; first | omega | (simp; done) | (simp; omega)) _) (HB4.out.mono (by have := RB3.out.size; first | omega | (simp; done) | (simp; omega))))
  have hz4 := HB4.out.size
  simp at hz4
  have Oq3_lt : Lt Aq3 w4.heap.size := Oq3.out.lt
  go_wp2_with (fail)
  refine (impl_AllocBlock_any _ _ _ _ (Oq3.out.alloc _).ts).mono ?_
  rintro e w5 ⟨Aq4, nq4, cq4, rfl, hq4, hb5⟩
  have HB5 := Lib.hid hb5
  clear hb5
  have Oq4 := Lib.hid hq4
  clear hq4
  have Oq4_n : nq4 ≤ 10 := (by have h1 := Oq4.out.len; have h2 := alX_le x0 xs900 x1 x2; omega)
  have RB5 := Lib.hid (Below.trans (RB4.out.alloc (by have := RB4.out.size; first | omega | (simp; done) | (simp; omega)) _) (HB5.out.mono (by have := RB4.out.size; first | omega | (simp; done) | (simp; omega))))
  have hz5 := HB5.out.size
  simp at hz5
  have Oq4_lt : Lt Aq4 w5.heap.size := Oq4.out.lt
  have K3 := Lib.hid ((((Blk.new w3 25 #[.int .i64 (alS x0 xs900 x1 x2), .slice Aq2 nq2 cq2]).on HB4.out).alloc _).on HB5.out)
  obtain ⟨k3_0, k3_1⟩ := K3.out.c2
  have k3_lt := K3.out.lt
  go_wp2_with (fail)
  refine (laws_eqArena_same _ _ (Oq4.out.alloc _).ts (((((Oq2.out.alloc _).below HB4.out (Nat.le_refl _)).alloc _).below HB5.out (Nat.le_refl _)).alloc _).ts).mono ?_
  clear k3_0 k3_1 k3_lt
  rintro e w6 ⟨rfl, hb6⟩
  have HB6 := Lib.hid hb6
  clear hb6
  have RB6 := Lib.hid (Below.trans (RB5.out.alloc (by have := RB5.out.size; first | omega | (simp; done) | (simp; omega)) _) (HB6.out.mono (by have := RB5.out.size; first | omega | (simp; done) | (simp; omega))))
  have hz6 := HB6.out.size
  simp at hz6
  go_wp2_with (fail)
  have K4 := Lib.hid ((((Blk.new w4 25 #[.int .i64 x0, .slice Aq3 nq3 cq3]).on HB5.out).alloc _).on HB6.out)
  obtain ⟨k4_0, k4_1⟩ := K4.out.c2
  have K5 := Lib.hid ((((((((((Blk.new w 43 #[.int .i64 x0, .slice A900 n900 c900]).on HB1.out).on HB2.out).on HB3.out).alloc _).on HB4.out).alloc _).on HB5.out).alloc _).on HB6.out)
  obtain ⟨k5_0, k5_1⟩ := K5.out.c2
  go_region_held3 (fun w' => w'.cell? ⟨w4.heap.size, 0, none⟩ = some (.int .i64 x0) ∧ w'.cell? ⟨w4.heap.size, 1, none⟩ = some (.slice Aq3 nq3 cq3) ∧ w'.cell? ⟨w.heap.size, 0, none⟩ = some (.int .i64 x0) ∧ w'.cell? ⟨w.heap.size, 1, none⟩ = some (.slice A900 n900 c900)) (first | exact S2 | exact S1 | go_keep) (first
    | (go_at_call 32; go_must (refine (laws_toArena_any _ _ (H900.out.below RB6.out (Nat.le_refl _)).drew (by omega)).mono ?_; rintro e w7 ⟨Aq5, nq5, cq5, rfl, hq5, hb7⟩; have HB7 := Lib.hid hb7; clear hb7; have Oq5 := Lib.hid hq5; clear hq5; have Oq5_n : nq5 ≤ 1048576 := (by have h1 := Oq5.out.len; have h2 := H900.out.len; omega); have RB7 := Lib.hid (Below.trans RB6.out.drew (HB7.out.mono RB6.out.size)); have hz7 := HB7.out.size; have Oq5_lt : Lt Aq5 w7.heap.size := Oq5.out.lt; have K6 := Lib.hid (((((Blk.new w4 25 #[.int .i64 x0, .slice Aq3 nq3 cq3]).on HB5.out).alloc _).on HB6.out).drew.on HB7.out); have K7 := Lib.hid (((((((((((Blk.new w 43 #[.int .i64 x0, .slice A900 n900 c900]).on HB1.out).on HB2.out).on HB3.out).alloc _).on HB4.out).alloc _).on HB5.out).alloc _).on HB6.out).drew.on HB7.out); have S1 := (And.intro K6.out.c2.1 (And.intro K6.out.c2.2 (And.intro K7.out.c2.1 K7.out.c2.2)))))
    | (go_at_call 33; go_must (refine (laws_eqArena_same _ _ (((((Oq3.out.alloc _).below HB5.out (Nat.le_refl _)).alloc _).below HB6.out (Nat.le_refl _)).drew.below HB7.out (Nat.le_refl _)).ts Oq5.out.ts).mono ?_; rintro e w8 ⟨rfl, hb8⟩; have HB8 := Lib.hid hb8; clear hb8; have RB8 := Lib.hid (Below.trans RB7.out (HB8.out.mono RB7.out.size)); have hz8 := HB8.out.size; have K8 := Lib.hid ((((((Blk.new w4 25 #[.int .i64 x0, .slice Aq3 nq3 cq3]).on HB5.out).alloc _).on HB6.out).drew.on HB7.out).on HB8.out); have K9 := Lib.hid ((((((((((((Blk.new w 43 #[.int .i64 x0, .slice A900 n900 c900]).on HB1.out).on HB2.out).on HB3.out).alloc _).on HB4.out).alloc _).on HB5.out).alloc _).on HB6.out).drew.on HB7.out).on HB8.out); have S2 := (And.intro K8.out.c2.1 (And.intro K8.out.c2.2 (And.intro K9.out.c2.1 K9.out.c2.2))))))
  clear k4_0 k4_1 k5_0 k5_1
  have K10 := Lib.hid ((((((Blk.new w4 25 #[.int .i64 x0, .slice Aq3 nq3 cq3]).on HB5.out).alloc _).on HB6.out).drew.on HB7.out).on HB8.out)
  obtain ⟨k10_0, k10_1⟩ := K10.out.c2
  have k10_lt := K10.out.lt
  go_wp2_with (fail)
  refine (laws_markArena_any _ _ _ ((((((Oq3.out.alloc _).below HB5.out (Nat.le_refl _)).alloc _).below HB6.out (Nat.le_refl _)).drew.below HB7.out (Nat.le_refl _)).below HB8.out (Nat.le_refl _)) (by omega) (by omega) (by omega)).mono ?_
  clear k10_0 k10_1 k10_lt
  rintro e w9 ⟨rfl, hq6, hb9⟩
  have HB9 := Lib.hid hb9
  clear hb9
  have Oq6 := Lib.hid hq6
  clear hq6
  have RB9 := Lib.hid (below_row RB8.out HB9.out RB8.out.size (Oq3.out.ge.mono (by first | omega | (simp; done) | (simp; omega))))
  have hz9 := HB9.out.size
  have K11 := Lib.hid (((((Blk.new w5 25 #[.int .i64 (alS x0 xs900 x1 x2), .slice Aq4 nq4 cq4]).on HB6.out).drew.on HB7.out).on HB8.out).away HB9.out (Disj.mk (B := w4.heap.size) (Oq3_lt.mono (by omega)) (fun p hp => by cases hp; show _ ≤ w5.heap.size; omega)).symm)
  obtain ⟨k11_0, k11_1⟩ := K11.out.c2
  have k11_lt := K11.out.lt
  have K12 := Lib.hid (((((((((Blk.new w3 25 #[.int .i64 (alS x0 xs900 x1 x2), .slice Aq2 nq2 cq2]).on HB4.out).alloc _).on HB5.out).alloc _).on HB6.out).drew.on HB7.out).on HB8.out).away HB9.out (Disj.mk (B := w3.heap.size + 1) (fun p hp => by cases hp; show w3.heap.size < _; omega) (Oq6.out.ge.mono (by first | omega | (simp; done) | (simp; omega)))))
  obtain ⟨k12_0, k12_1⟩ := K12.out.c2
  have k12_lt := K12.out.lt
  go_wp2_with (fail)
  refine (laws_eqArena_same _ _ (((((Oq4.out.alloc _).below HB6.out (Nat.le_refl _)).drew.below HB7.out (Nat.le_refl _)).below HB8.out (Nat.le_refl _)).away HB9.out (Disj.mk (B := w4.heap.size) (Oq3_lt.mono (by omega)) (Oq4.out.ge.mono (by first | omega | (simp; done) | (simp; omega)))).symm).ts (((((((((Oq2.out.alloc _).below HB4.out (Nat.le_refl _)).alloc _).below HB5.out (Nat.le_refl _)).alloc _).below HB6.out (Nat.le_refl _)).drew.below HB7.out (Nat.le_refl _)).below HB8.out (Nat.le_refl _)).away HB9.out (Disj.mk (B := w3.heap.size) (Oq2_lt.mono (by omega)) (Oq6.out.ge.mono (by first | omega | (simp; done) | (simp; omega))))).ts).mono ?_
  clear k11_0 k11_1 k11_lt k12_0 k12_1 k12_lt
  rintro e w10 ⟨rfl, hb10⟩
  have HB10 := Lib.hid hb10
  clear hb10
  have RB10 := Lib.hid (Below.trans RB9.out (HB10.out.mono RB9.out.size))
  have hz10 := HB10.out.size
  have K13 := Lib.hid ((((((Blk.new w5 25 #[.int .i64 (alS x0 xs900 x1 x2), .slice Aq4 nq4 cq4]).on HB6.out).drew.on HB7.out).on HB8.out).away HB9.out (Disj.mk (B := w4.heap.size) (Oq3_lt.mono (by omega)) (fun p hp => by cases hp; show _ ≤ w5.heap.size; omega)).symm).on HB10.out)
  obtain ⟨k13_0, k13_1⟩ := K13.out.c2
  have k13_lt := K13.out.lt
  go_wp2_with (fail)
  refine (laws_markArena_any _ _ _ ((((((Oq4.out.alloc _).below HB6.out (Nat.le_refl _)).drew.below HB7.out (Nat.le_refl _)).below HB8.out (Nat.le_refl _)).away HB9.out (Disj.mk (B := w4.heap.size) (Oq3_lt.mono (by omega)) (Oq4.out.ge.mono (by first | omega | (simp; done) | (simp; omega)))).symm).below HB10.out (Nat.le_refl _)) (by omega) (by omega) (by omega)).mono ?_
  clear k13_0 k13_1 k13_lt
  rintro e w11 ⟨rfl, hq7, hb11⟩
  have HB11 := Lib.hid hb11
  clear hb11
  have Oq7 := Lib.hid hq7
  clear hq7
  have RB11 := Lib.hid (below_row RB10.out HB11.out RB10.out.size (Oq4.out.ge.mono (by first | omega | (simp; done) | (simp; omega))))
  have hz11 := HB11.out.size
  have K14 := Lib.hid (((((((Blk.new w5 25 #[.int .i64 (alS x0 xs900 x1 x2), .slice Aq4 nq4 cq4]).on HB6.out).drew.on HB7.out).on HB8.out).away HB9.out (Disj.mk (B := w4.heap.size) (Oq3_lt.mono (by omega)) (fun p hp => by cases hp; show _ ≤ w5.heap.size; omega)).symm).on HB10.out).away HB11.out (Disj.mk (B := w5.heap.size) (Oq4_lt.mono (by omega)) (fun p hp => by cases hp; show _ ≤ w5.heap.size; omega)).symm)
  obtain ⟨k14_0, k14_1⟩ := K14.out.c2
  have k14_lt := K14.out.lt
  go_wp2_with (fail)
  refine (laws_heldArena_any _ _ _ Oq7.out.ts (by omega) (by omega) (by omega)).mono ?_
  clear k14_0 k14_1 k14_lt
  rintro e w12 ⟨rfl, hb12⟩
  have HB12 := Lib.hid hb12
  clear hb12
  have RB12 := Lib.hid (Below.trans RB11.out (HB12.out.mono RB11.out.size))
  have hz12 := HB12.out.size
  have K15 := Lib.hid ((((((((((((((((Blk.new w 43 #[.int .i64 x0, .slice A900 n900 c900]).on HB1.out).on HB2.out).on HB3.out).alloc _).on HB4.out).alloc _).on HB5.out).alloc _).on HB6.out).drew.on HB7.out).on HB8.out).away HB9.out (Disj.mk (B := w.heap.size + 1) (fun p hp => by cases hp; show w.heap.size < _; omega) (Oq6.out.ge.mono (by first | omega | (simp; done) | (simp; omega))))).on HB10.out).away HB11.out (Disj.mk (B := w.heap.size + 1) (fun p hp => by cases hp; show w.heap.size < _; omega) (Oq7.out.ge.mono (by first | omega | (simp; done) | (simp; omega))))).on HB12.out)
  obtain ⟨k15_0, k15_1⟩ := K15.out.c2
  have k15_lt := K15.out.lt
  go_wp2_with (fail)
  refine (laws_toArena_any _ _ (H900.out.below RB12.out (Nat.le_refl _)) (by omega)).mono ?_
  clear k15_0 k15_1 k15_lt
  rintro e w13 ⟨Aq8, nq8, cq8, rfl, hq8, hb13⟩
  have HB13 := Lib.hid hb13
  clear hb13
  have Oq8 := Lib.hid hq8
  clear hq8
  have Oq8_n : nq8 ≤ 1048576 := (by have h1 := Oq8.out.len; have h2 := H900.out.len; omega)
  have RB13 := Lib.hid (Below.trans RB12.out (HB13.out.mono RB12.out.size))
  have hz13 := HB13.out.size
  have Oq8_lt : Lt Aq8 w13.heap.size := Oq8.out.lt
  go_wp2_with (fail)
  refine (impl_AllocBlock_any _ _ _ _ Oq8.out.ts).mono ?_
  rintro e w14 ⟨Aq9, nq9, cq9, rfl, hq9, hb14⟩
  have HB14 := Lib.hid hb14
  clear hb14
  have Oq9 := Lib.hid hq9
  clear hq9
  have Oq9_n : nq9 ≤ 10 := (by have h1 := Oq9.out.len; have h2 := alX_le x0 xs900 x1 x2; omega)
  have RB14 := Lib.hid (Below.trans RB13.out (HB14.out.mono RB13.out.size))
  have hz14 := HB14.out.size
  have Oq9_lt : Lt Aq9 w14.heap.size := Oq9.out.lt
  have K16 := Lib.hid ((((((((((((((Blk.new w3 25 #[.int .i64 (alS x0 xs900 x1 x2), .slice Aq2 nq2 cq2]).on HB4.out).alloc _).on HB5.out).alloc _).on HB6.out).drew.on HB7.out).on HB8.out).away HB9.out (Disj.mk (B := w3.heap.size + 1) (fun p hp => by cases hp; show w3.heap.size < _; omega) (Oq6.out.ge.mono (by first | omega | (simp; done) | (simp; omega))))).on HB10.out).away HB11.out (Disj.mk (B := w3.heap.size + 1) (fun p hp => by cases hp; show w3.heap.size < _; omega) (Oq7.out.ge.mono (by first | omega | (simp; done) | (simp; omega))))).on HB12.out).on HB13.out).on HB14.out)
  obtain ⟨k16_0, k16_1⟩ := K16.out.c2
  have k16_lt := K16.out.lt
  go_wp2_with (fail)
  refine (laws_eqArena_same _ _ (Oq9.out.alloc _).ts (((((((((((((((Oq2.out.alloc _).below HB4.out (Nat.le_refl _)).alloc _).below HB5.out (Nat.le_refl _)).alloc _).below HB6.out (Nat.le_refl _)).drew.below HB7.out (Nat.le_refl _)).below HB8.out (Nat.le_refl _)).away HB9.out (Disj.mk (B := w3.heap.size) (Oq2_lt.mono (by omega)) (Oq6.out.ge.mono (by first | omega | (simp; done) | (simp; omega))))).below HB10.out (Nat.le_refl _)).away HB11.out (Disj.mk (B := w3.heap.size) (Oq2_lt.mono (by omega)) (Oq7.out.ge.mono (by first | omega | (simp; done) | (simp; omega))))).below HB12.out (Nat.le_refl _)).below HB13.out (Nat.le_refl _)).below HB14.out (Nat.le_refl _)).alloc _).ts).mono ?_
  clear k16_0 k16_1 k16_lt
  rintro e w15 ⟨rfl, hb15⟩
  have HB15 := Lib.hid hb15
  clear hb15
  have RB15 := Lib.hid (Below.trans (RB14.out.alloc (by have := RB14.out.size; first | omega | (simp; done) | (simp; omega)) _) (HB15.out.mono (by have := RB14.out.size; first | omega | (simp; done) | (simp; omega))))
  have hz15 := HB15.out.size
  simp at hz15
  have K17 := Lib.hid ((((((((((((Blk.new w5 25 #[.int .i64 (alS x0 xs900 x1 x2), .slice Aq4 nq4 cq4]).on HB6.out).drew.on HB7.out).on HB8.out).away HB9.out (Disj.mk (B := w4.heap.size) (Oq3_lt.mono (by omega)) (fun p hp => by cases hp; show _ ≤ w5.heap.size; omega)).symm).on HB10.out).away HB11.out (Disj.mk (B := w5.heap.size) (Oq4_lt.mono (by omega)) (fun p hp => by cases hp; show _ ≤ w5.heap.size; omega)).symm).on HB12.out).on HB13.out).on HB14.out).alloc _).on HB15.out)
  obtain ⟨k17_0, k17_1⟩ := K17.out.c2
  have k17_lt := K17.out.lt
  go_wp2_with (fail)
  refine (laws_heldArena_any _ _ _ (((((Oq7.out.below HB12.out (Nat.le_refl _)).below HB13.out (Nat.le_refl _)).below HB14.out (Nat.le_refl _)).alloc _).below HB15.out (Nat.le_refl _)).ts (by omega) (by omega) (by omega)).mono ?_
  clear k17_0 k17_1 k17_lt
  rintro e w16 ⟨rfl, hb16⟩
  have HB16 := Lib.hid hb16
  clear hb16
  have RB16 := Lib.hid (Below.trans RB15.out (HB16.out.mono RB15.out.size))
  have hz16 := HB16.out.size
  go_wp2_with (fail)
  go_ret
  exact ⟨rfl, RB16.out⟩
end Go.Proofs.Ytleoncjdhlomaaa
