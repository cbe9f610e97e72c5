/-
  The law FnExactPopEntry: its walk. (Written by a program of my own off the law's operations.)
-/
/-
-- CALL: i0 W s0 s1 s2
-/
import Derived.Test.YtccgfeenjffnpaaQuW
import Derived.Test.YtccgfeenjffnpaaQuL
import Derived.Deep.RegionHeld3
import Derived.Deep.DrawnRows
import Derived.Deep.DeepMust
import Derived.Deep.DeepCutAuto
namespace Go.Proofs.Ytccgfeenjffnpaa
open Go.RowKit
attribute [local go_sem ↓] Go.wp_at_zero Go.wp_at_succ
set_option maxRecDepth 100000 in
set_option maxHeartbeats 8000000 in
theorem walk_FnExactPopEntry {A900 : Option Addr} {n900 c900 : Nat} {xs900 : List Tr} {A901 : Option Addr} {n901 c901 : Nat} {xs901 : List Int} {A902 : Option Addr} {n902 c902 : Nat} {xs902 : List Int} (x0 : Int) (w : World) (h900 : TS w A900 n900 c900 xs900) (h901 : IS w A901 n901 c901 xs901) (h902 : IS w A902 n902 c902 xs902) :
    Calls Try.prog 5 #[.agg #[.slice A900 n900 c900, .slice A901 n901 c901, .slice A902 n902 c902, .int .i64 x0]] w fun e w' => e = .returned (.bool true) ∧ Below w.heap.size w w' := by
  have hcap900 := h900.cap
  have H900 := Lib.hid h900
  clear h900
  have hcap901 := h901.cap
  have H901 := Lib.hid h901
  clear h901
  have hcap902 := h902.cap
  have H902 := Lib.hid h902
  clear h902
  rcases Int.lt_or_le (1048576 : Int) ((n900 + n901 + n902 : Nat) : Int) with hs1 | hs1
  · have he1 := Lib.hid (szL_lo hs1)
    have RB0 : Hid (Below w.heap.size w w) := Lib.hid (Below.refl _ _)
    go_enter Try.func5, Try.ntmps5
    go_wp2_with (fail)
    refine (laws_szQueue_any _ _ _ hcap900 hcap901 hcap902 (by omega) (by omega)).mono ?_
    rintro e w1 ⟨rfl, hb1⟩
    have HB1 := Lib.hid hb1
    clear hb1
    rw [he1.out]
    have RB1 := Lib.hid (Below.trans (RB0.out.alloc (by have := RB0.out.size; first | omega | (simp; done) | (simp; omega)) _) (HB1.out.mono (by have := RB0.out.size; first | omega | (simp; done) | (simp; omega))))
    have hz1 := HB1.out.size
    simp at hz1
    go_wp2_with (fail)
    go_ret
    exact ⟨rfl, RB1.out⟩
  have he1 := Lib.hid (szL_hi hs1)
  have hx1 : 0 ≤ (1048576 : Int) - ((n900 + n901 + n902 : Nat) : Int) := by omega
  have RB0 : Hid (Below w.heap.size w w) := Lib.hid (Below.refl _ _)
  go_enter Try.func5, Try.ntmps5
  go_wp2_with (fail)
  refine (laws_szQueue_any _ _ _ hcap900 hcap901 hcap902 (by omega) (by omega)).mono ?_
  rintro e w1 ⟨rfl, hb1⟩
  have HB1 := Lib.hid hb1
  clear hb1
  rw [he1.out]
  have RB1 := Lib.hid (Below.trans (RB0.out.alloc (by have := RB0.out.size; first | omega | (simp; done) | (simp; omega)) _) (HB1.out.mono (by have := RB0.out.size; first | omega | (simp; done) | (simp; omega))))
  have hz1 := HB1.out.size
  simp at hz1
  have K1 := Lib.hid ((Blk.new w 25 #[.slice A900 n900 c900, .slice A901 n901 c901, .slice A902 n902 c902, .int .i64 x0]).on HB1.out)
  obtain ⟨k1_0, k1_1, k1_2, k1_3⟩ := K1.out.c4
  have k1_lt := K1.out.lt
  go_wp2_with (fail)
  refine (laws_toQueue_any _ _ (H900.out.below RB1.out (Nat.le_refl _)) (H901.out.below RB1.out (Nat.le_refl _)) (H902.out.below RB1.out (Nat.le_refl _)) (by omega) (by omega) (by omega)).mono ?_
  clear k1_0 k1_1 k1_2 k1_3 k1_lt
  rintro e w2 ⟨Aq1, nq1, cq1, Aq2, nq2, cq2, Aq3, nq3, cq3, rfl, hq1, hq2, hq3, hD1, hD2, hD3, hb2⟩
  have HB2 := Lib.hid hb2
  clear hb2
  have Oq1 := Lib.hid hq1
  clear hq1
  have Oq2 := Lib.hid hq2
  clear hq2
  have Oq3 := Lib.hid hq3
  clear hq3
  have D1 := Lib.hid hD1
  clear hD1
  have D2 := Lib.hid hD2
  clear hD2
  have D3 := Lib.hid hD3
  clear hD3
  have Oq1_n : nq1 ≤ 1048576 := (by have h1 := Oq1.out.len; have h2 := H900.out.len; omega)
  have Oq2_n : nq2 ≤ 1048576 := (by have h1 := Oq2.out.len; have h2 := H901.out.len; omega)
  have Oq3_n : nq3 ≤ 1048576 := (by have h1 := Oq3.out.len; have h2 := H902.out.len; omega)
  have RB2 := Lib.hid (Below.trans RB1.out (HB2.out.mono RB1.out.size))
  have hz2 := HB2.out.size
  have Oq1_lt : Lt Aq1 w2.heap.size := Oq1.out.lt
  have Oq2_lt : Lt Aq2 w2.heap.size := Oq2.out.lt
  have Oq3_lt : Lt Aq3 w2.heap.size := Oq3.out.lt
  go_wp2_with (fail)
  refine (spec_PopEntry_any _ _ Oq1.out.ts Oq2.out.is Oq3.out.is).mono ?_
  rintro e w3 ⟨Aq4, nq4, cq4, Aq5, nq5, cq5, Aq6, nq6, cq6, rfl, hq4, hq5, hq6, hD4, hD5, hD6, hb3⟩
  have HB3 := Lib.hid hb3
  clear hb3
  have Oq4 := Lib.hid hq4
  clear hq4
  have Oq5 := Lib.hid hq5
  clear hq5
  have Oq6 := Lib.hid hq6
  clear hq6
  have D4 := Lib.hid hD4
  clear hD4
  have D5 := Lib.hid hD5
  clear hD5
  have D6 := Lib.hid hD6
  clear hD6
  have Oq4_n : nq4 ≤ 10 := (by have h1 := Oq4.out.len; have h2 := popL_le xs900 xs901 xs902 x0; omega)
  have Oq5_n : nq5 ≤ 3 := (by have h1 := Oq5.out.len; have h2 := popH_le xs900 xs901 xs902 x0; omega)
  have Oq6_n : nq6 ≤ 3 := (by have h1 := Oq6.out.len; have h2 := popD_le xs900 xs901 xs902 x0; omega)
  have RB3 := Lib.hid (Below.trans RB2.out (HB3.out.mono RB2.out.size))
  have hz3 := HB3.out.size
  have Oq4_lt : Lt Aq4 w3.heap.size := Oq4.out.lt
  have Oq5_lt : Lt Aq5 w3.heap.size := Oq5.out.lt
  have Oq6_lt : Lt Aq6 w3.heap.size := Oq6.out.lt
  have K2 := Lib.hid ((((Blk.new w 25 #[.slice A900 n900 c900, .slice A901 n901 c901, .slice A902 n902 c902, .int .i64 x0]).on HB1.out).on HB2.out).on HB3.out)
  obtain ⟨k2_0, k2_1, k2_2, k2_3⟩ := K2.out.c4
  have k2_lt := K2.out.lt
  go_wp2_with (fail)
  refine (laws_toQueue_any _ _ (((H900.out.below RB3.out (Nat.le_refl _)).alloc _).alloc _) (((H901.out.below RB3.out (Nat.le_refl _)).alloc _).alloc _) (((H902.out.below RB3.out (Nat.le_refl _)).alloc _).alloc _) (by omega) (by omega) (by omega)).mono ?_
  clear k2_0 k2_1 k2_2 k2_3 k2_lt
  rintro e w4 ⟨Aq7, nq7, cq7, Aq8, nq8, cq8, Aq9, nq9, cq9, rfl, hq7, hq8, hq9, hD7, hD8, hD9, hb4⟩
  have HB4 := Lib.hid hb4
  clear hb4
  have Oq7 := Lib.hid hq7
  clear hq7
  have Oq8 := Lib.hid hq8
  clear hq8
  have Oq9 := Lib.hid hq9
  clear hq9
  have D7 := Lib.hid hD7
  clear hD7
  have D8 := Lib.hid hD8
  clear hD8
  have D9 := Lib.hid hD9
  clear hD9
  have Oq7_n : nq7 ≤ 1048576 := (by have h1 := Oq7.out.len; have h2 := H900.out.len; omega)
  have Oq8_n : nq8 ≤ 1048576 := (by have h1 := Oq8.out.len; have h2 := H901.out.len; omega)
  have Oq9_n : nq9 ≤ 1048576 := (by have h1 := Oq9.out.len; have h2 := H902.out.len; omega)
  have RB4 := Lib.hid (Below.trans ((RB3.out.alloc (by have := RB3.out.size; first | omega | (simp; done) | (simp; omega)) _).alloc (by have := RB3.out.size; first | omega | (simp; done) | (simp; omega)) _) (HB4.out.mono (by have := RB3.out.size; first | omega | (simp; done) | (simp; omega))))
  have hz4 := HB4.out.size
  simp at hz4
  have Oq7_lt : Lt Aq7 w4.heap.size := Oq7.out.lt
  have Oq8_lt : Lt Aq8 w4.heap.size := Oq8.out.lt
  have Oq9_lt : Lt Aq9 w4.heap.size := Oq9.out.lt
  go_wp2_with (fail)
  refine (impl_PopEntry_any _ _ (Oq7.out.alloc _).ts (Oq8.out.alloc _).is (Oq9.out.alloc _).is).mono ?_
  rintro e w5 ⟨Aq10, nq10, cq10, Aq11, nq11, cq11, Aq12, nq12, cq12, rfl, hq10, hq11, hq12, hD10, hD11, hD12, hb5⟩
  have HB5 := Lib.hid hb5
  clear hb5
  have Oq10 := Lib.hid hq10
  clear hq10
  have Oq11 := Lib.hid hq11
  clear hq11
  have Oq12 := Lib.hid hq12
  clear hq12
  have D10 := Lib.hid hD10
  clear hD10
  have D11 := Lib.hid hD11
  clear hD11
  have D12 := Lib.hid hD12
  clear hD12
  have Oq10_n : nq10 ≤ 10 := (by have h1 := Oq10.out.len; have h2 := popL_le xs900 xs901 xs902 x0; omega)
  have Oq11_n : nq11 ≤ 3 := (by have h1 := Oq11.out.len; have h2 := popH_le xs900 xs901 xs902 x0; omega)
  have Oq12_n : nq12 ≤ 3 := (by have h1 := Oq12.out.len; have h2 := popD_le xs900 xs901 xs902 x0; omega)
  have RB5 := Lib.hid (Below.trans (RB4.out.alloc (by have := RB4.out.size; first | omega | (simp; done) | (simp; omega)) _) (HB5.out.mono (by have := RB4.out.size; first | omega | (simp; done) | (simp; omega))))
  have hz5 := HB5.out.size
  simp at hz5
  have Oq10_lt : Lt Aq10 w5.heap.size := Oq10.out.lt
  have Oq11_lt : Lt Aq11 w5.heap.size := Oq11.out.lt
  have Oq12_lt : Lt Aq12 w5.heap.size := Oq12.out.lt
  have K3 := Lib.hid (((((Blk.new w3 38 #[.int .i64 (popX xs900 xs901 xs902 x0).a, .int .i64 (popX xs900 xs901 xs902 x0).b, .int .i64 (popX xs900 xs901 xs902 x0).c]).alloc _).on HB4.out).alloc _).on HB5.out)
  obtain ⟨k3_0, k3_1, k3_2⟩ := K3.out.c3
  have k3_lt := K3.out.lt
  go_wp2_with (fail)
  refine (laws_eqEntry_same _ _ _ _).mono ?_
  clear k3_0 k3_1 k3_2 k3_lt
  rintro e w6 ⟨rfl, hb6⟩
  have HB6 := Lib.hid hb6
  clear hb6
  have RB6 := Lib.hid (Below.trans ((RB5.out.alloc (by have := RB5.out.size; first | omega | (simp; done) | (simp; omega)) _).alloc (by have := RB5.out.size; first | omega | (simp; done) | (simp; omega)) _) (HB6.out.mono (by have := RB5.out.size; first | omega | (simp; done) | (simp; omega))))
  have hz6 := HB6.out.size
  simp at hz6
  have K4 := Lib.hid ((by simpa using (Blk.new (w5.alloc (.cells #[.int .i64 (popX xs900 xs901 xs902 x0).a, .int .i64 (popX xs900 xs901 xs902 x0).b, .int .i64 (popX xs900 xs901 xs902 x0).c] 38)) 30 #[.slice Aq10 nq10 cq10, .slice Aq11 nq11 cq11, .slice Aq12 nq12 cq12, .int .i64 (popT xs900 xs901 xs902 x0)]) : Blk _ (w5.heap.size + 1) _ _).on HB6.out)
  obtain ⟨k4_0, k4_1, k4_2, k4_3⟩ := K4.out.c4
  have k4_lt := K4.out.lt
  have K5 := Lib.hid (((((((by simpa using (Blk.new (w3.alloc (.cells #[.int .i64 (popX xs900 xs901 xs902 x0).a, .int .i64 (popX xs900 xs901 xs902 x0).b, .int .i64 (popX xs900 xs901 xs902 x0).c] 38)) 30 #[.slice Aq4 nq4 cq4, .slice Aq5 nq5 cq5, .slice Aq6 nq6 cq6, .int .i64 (popT xs900 xs901 xs902 x0)]) : Blk _ (w3.heap.size + 1) _ _).on HB4.out).alloc _).on HB5.out).alloc _).alloc _).on HB6.out)
  obtain ⟨k5_0, k5_1, k5_2, k5_3⟩ := K5.out.c4
  have k5_lt := K5.out.lt
  go_wp2_with (fail)
  refine (laws_eqQueue_same _ _ (((Oq10.out.alloc _).alloc _).below HB6.out (Nat.le_refl _)).ts (((Oq11.out.alloc _).alloc _).below HB6.out (Nat.le_refl _)).is (((Oq12.out.alloc _).alloc _).below HB6.out (Nat.le_refl _)).is ((((((((Oq4.out.alloc _).alloc _).below HB4.out (Nat.le_refl _)).alloc _).below HB5.out (Nat.le_refl _)).alloc _).alloc _).below HB6.out (Nat.le_refl _)).ts ((((((((Oq5.out.alloc _).alloc _).below HB4.out (Nat.le_refl _)).alloc _).below HB5.out (Nat.le_refl _)).alloc _).alloc _).below HB6.out (Nat.le_refl _)).is ((((((((Oq6.out.alloc _).alloc _).below HB4.out (Nat.le_refl _)).alloc _).below HB5.out (Nat.le_refl _)).alloc _).alloc _).below HB6.out (Nat.le_refl _)).is).mono ?_
  clear k4_0 k4_1 k4_2 k4_3 k4_lt k5_0 k5_1 k5_2 k5_3 k5_lt
  rintro e w7 ⟨rfl, hb7⟩
  have HB7 := Lib.hid hb7
  clear hb7
  have RB7 := Lib.hid (Below.trans RB6.out (HB7.out.mono RB6.out.size))
  have hz7 := HB7.out.size
  go_wp2_with (fail)
  have K6 := Lib.hid ((((((Blk.new w4 30 #[.slice Aq7 nq7 cq7, .slice Aq8 nq8 cq8, .slice Aq9 nq9 cq9, .int .i64 x0]).on HB5.out).alloc _).alloc _).on HB6.out).on HB7.out)
  obtain ⟨k6_0, k6_1, k6_2, k6_3⟩ := K6.out.c4
  have K7 := Lib.hid (((((((((((((Blk.new w 25 #[.slice A900 n900 c900, .slice A901 n901 c901, .slice A902 n902 c902, .int .i64 x0]).on HB1.out).on HB2.out).on HB3.out).alloc _).alloc _).on HB4.out).alloc _).on HB5.out).alloc _).alloc _).on HB6.out).on HB7.out)
  obtain ⟨k7_0, k7_1, k7_2, k7_3⟩ := K7.out.c4
  go_region_held3 (fun w' => w'.cell? ⟨w4.heap.size, 0, none⟩ = some (.slice Aq7 nq7 cq7) ∧ w'.cell? ⟨w4.heap.size, 1, none⟩ = some (.slice Aq8 nq8 cq8) ∧ w'.cell? ⟨w4.heap.size, 2, none⟩ = some (.slice Aq9 nq9 cq9) ∧ w'.cell? ⟨w4.heap.size, 3, none⟩ = some (.int .i64 x0) ∧ w'.cell? ⟨w.heap.size, 0, none⟩ = some (.slice A900 n900 c900) ∧ w'.cell? ⟨w.heap.size, 1, none⟩ = some (.slice A901 n901 c901) ∧ w'.cell? ⟨w.heap.size, 2, none⟩ = some (.slice A902 n902 c902) ∧ w'.cell? ⟨w.heap.size, 3, none⟩ = some (.int .i64 x0)) (first | exact S2 | exact S1 | go_keep) (first
    | (go_at_call 15; go_must (refine (laws_toQueue_any _ _ (H900.out.below RB7.out (Nat.le_refl _)).drew (H901.out.below RB7.out (Nat.le_refl _)).drew (H902.out.below RB7.out (Nat.le_refl _)).drew (by omega) (by omega) (by omega)).mono ?_; rintro e w8 ⟨Aq13, nq13, cq13, Aq14, nq14, cq14, Aq15, nq15, cq15, rfl, hq13, hq14, hq15, hD13, hD14, hD15, hb8⟩; have HB8 := Lib.hid hb8; clear hb8; have Oq13 := Lib.hid hq13; clear hq13; have Oq14 := Lib.hid hq14; clear hq14; have Oq15 := Lib.hid hq15; clear hq15; have D13 := Lib.hid hD13; clear hD13; have D14 := Lib.hid hD14; clear hD14; have D15 := Lib.hid hD15; clear hD15; have Oq13_n : nq13 ≤ 1048576 := (by have h1 := Oq13.out.len; have h2 := H900.out.len; omega); have Oq14_n : nq14 ≤ 1048576 := (by have h1 := Oq14.out.len; have h2 := H901.out.len; omega); have Oq15_n : nq15 ≤ 1048576 := (by have h1 := Oq15.out.len; have h2 := H902.out.len; omega); have RB8 := Lib.hid (Below.trans RB7.out.drew (HB8.out.mono RB7.out.size)); have hz8 := HB8.out.size; have Oq13_lt : Lt Aq13 w8.heap.size := Oq13.out.lt; have Oq14_lt : Lt Aq14 w8.heap.size := Oq14.out.lt; have Oq15_lt : Lt Aq15 w8.heap.size := Oq15.out.lt; have K8 := Lib.hid (((((((Blk.new w4 30 #[.slice Aq7 nq7 cq7, .slice Aq8 nq8 cq8, .slice Aq9 nq9 cq9, .int .i64 x0]).on HB5.out).alloc _).alloc _).on HB6.out).on HB7.out).drew.on HB8.out); have K9 := Lib.hid ((((((((((((((Blk.new w 25 #[.slice A900 n900 c900, .slice A901 n901 c901, .slice A902 n902 c902, .int .i64 x0]).on HB1.out).on HB2.out).on HB3.out).alloc _).alloc _).on HB4.out).alloc _).on HB5.out).alloc _).alloc _).on HB6.out).on HB7.out).drew.on HB8.out); have S1 := (And.intro K8.out.c4.1 (And.intro K8.out.c4.2.1 (And.intro K8.out.c4.2.2.1 (And.intro K8.out.c4.2.2.2 (And.intro K9.out.c4.1 (And.intro K9.out.c4.2.1 (And.intro K9.out.c4.2.2.1 K9.out.c4.2.2.2)))))))))
    | (go_at_call 17; go_must (refine (laws_eqQueue_same _ _ (((((((Oq7.out.alloc _).below HB5.out (Nat.le_refl _)).alloc _).alloc _).below HB6.out (Nat.le_refl _)).below HB7.out (Nat.le_refl _)).drew.below HB8.out (Nat.le_refl _)).ts (((((((Oq8.out.alloc _).below HB5.out (Nat.le_refl _)).alloc _).alloc _).below HB6.out (Nat.le_refl _)).below HB7.out (Nat.le_refl _)).drew.below HB8.out (Nat.le_refl _)).is (((((((Oq9.out.alloc _).below HB5.out (Nat.le_refl _)).alloc _).alloc _).below HB6.out (Nat.le_refl _)).below HB7.out (Nat.le_refl _)).drew.below HB8.out (Nat.le_refl _)).is Oq13.out.ts Oq14.out.is Oq15.out.is).mono ?_; rintro e w9 ⟨rfl, hb9⟩; have HB9 := Lib.hid hb9; clear hb9; have RB9 := Lib.hid (Below.trans RB8.out (HB9.out.mono RB8.out.size)); have hz9 := HB9.out.size; have K10 := Lib.hid ((((((((Blk.new w4 30 #[.slice Aq7 nq7 cq7, .slice Aq8 nq8 cq8, .slice Aq9 nq9 cq9, .int .i64 x0]).on HB5.out).alloc _).alloc _).on HB6.out).on HB7.out).drew.on HB8.out).on HB9.out); have K11 := Lib.hid (((((((((((((((Blk.new w 25 #[.slice A900 n900 c900, .slice A901 n901 c901, .slice A902 n902 c902, .int .i64 x0]).on HB1.out).on HB2.out).on HB3.out).alloc _).alloc _).on HB4.out).alloc _).on HB5.out).alloc _).alloc _).on HB6.out).on HB7.out).drew.on HB8.out).on HB9.out); have S2 := (And.intro K10.out.c4.1 (And.intro K10.out.c4.2.1 (And.intro K10.out.c4.2.2.1 (And.intro K10.out.c4.2.2.2 (And.intro K11.out.c4.1 (And.intro K11.out.c4.2.1 (And.intro K11.out.c4.2.2.1 K11.out.c4.2.2.2))))))))))
  clear k6_0 k6_1 k6_2 k6_3 k7_0 k7_1 k7_2 k7_3
  have K12 := Lib.hid ((((((((Blk.new w4 30 #[.slice Aq7 nq7 cq7, .slice Aq8 nq8 cq8, .slice Aq9 nq9 cq9, .int .i64 x0]).on HB5.out).alloc _).alloc _).on HB6.out).on HB7.out).drew.on HB8.out).on HB9.out)
  obtain ⟨k12_0, k12_1, k12_2, k12_3⟩ := K12.out.c4
  have k12_lt := K12.out.lt
  go_wp2_with (fail)
  refine (laws_markQueue_any _ _ _ ((((((((Oq7.out.alloc _).below HB5.out (Nat.le_refl _)).alloc _).alloc _).below HB6.out (Nat.le_refl _)).below HB7.out (Nat.le_refl _)).drew.below HB8.out (Nat.le_refl _)).below HB9.out (Nat.le_refl _)) ((((((((Oq8.out.alloc _).below HB5.out (Nat.le_refl _)).alloc _).alloc _).below HB6.out (Nat.le_refl _)).below HB7.out (Nat.le_refl _)).drew.below HB8.out (Nat.le_refl _)).below HB9.out (Nat.le_refl _)) ((((((((Oq9.out.alloc _).below HB5.out (Nat.le_refl _)).alloc _).alloc _).below HB6.out (Nat.le_refl _)).below HB7.out (Nat.le_refl _)).drew.below HB8.out (Nat.le_refl _)).below HB9.out (Nat.le_refl _)) D7.out D8.out D9.out (by omega) (by omega) (by omega) (by omega) (by omega)).mono ?_
  clear k12_0 k12_1 k12_2 k12_3 k12_lt
  rintro e w10 ⟨rfl, hq16, hq17, hq18, wm10_1, wm10_2, hb10, hb10_1, hb10_2⟩
  have HB10 := Lib.hid hb10
  clear hb10
  have HB10_1 := Lib.hid hb10_1
  clear hb10_1
  have HB10_2 := Lib.hid hb10_2
  clear hb10_2
  have Oq16 := Lib.hid hq16
  clear hq16
  have Oq17 := Lib.hid hq17
  clear hq17
  have Oq18 := Lib.hid hq18
  clear hq18
  have RB10 := Lib.hid (below_row (below_row (below_row RB9.out HB10.out RB9.out.size (Oq7.out.ge.mono (by first | omega | (simp; done) | (simp; omega)))) HB10_1.out (Nat.le_trans RB9.out.size HB10.out.size) (Oq8.out.ge.mono (by first | omega | (simp; done) | (simp; omega)))) HB10_2.out (Nat.le_trans (Nat.le_trans RB9.out.size HB10.out.size) HB10_1.out.size) (Oq9.out.ge.mono (by first | omega | (simp; done) | (simp; omega))))
  have HBs10 := (Nat.le_trans (Nat.le_trans HB10.out.size HB10_1.out.size) HB10_2.out.size)
  have hz10 := HBs10
  have K13 := Lib.hid (((((((((Blk.new w5 38 #[.int .i64 (popX xs900 xs901 xs902 x0).a, .int .i64 (popX xs900 xs901 xs902 x0).b, .int .i64 (popX xs900 xs901 xs902 x0).c]).alloc _).on HB6.out).on HB7.out).drew.on HB8.out).on HB9.out).away HB10.out (Disj.mk (B := w4.heap.size) (Oq7_lt.mono (by omega)) (fun p hp => by cases hp; show _ ≤ w5.heap.size; omega)).symm).away HB10_1.out (Disj.mk (B := w4.heap.size) (Oq8_lt.mono (by omega)) (fun p hp => by cases hp; show _ ≤ w5.heap.size; omega)).symm).away HB10_2.out (Disj.mk (B := w4.heap.size) (Oq9_lt.mono (by omega)) (fun p hp => by cases hp; show _ ≤ w5.heap.size; omega)).symm)
  obtain ⟨k13_0, k13_1, k13_2⟩ := K13.out.c3
  have k13_lt := K13.out.lt
  have K14 := Lib.hid ((((((((((((((Blk.new w3 38 #[.int .i64 (popX xs900 xs901 xs902 x0).a, .int .i64 (popX xs900 xs901 xs902 x0).b, .int .i64 (popX xs900 xs901 xs902 x0).c]).alloc _).on HB4.out).alloc _).on HB5.out).alloc _).alloc _).on HB6.out).on HB7.out).drew.on HB8.out).on HB9.out).away HB10.out (Disj.mk (B := w3.heap.size + 1) (fun p hp => by cases hp; show w3.heap.size < _; omega) (Oq16.out.ge.mono (by first | omega | (simp; done) | (simp; omega))))).away HB10_1.out (Disj.mk (B := w3.heap.size + 1) (fun p hp => by cases hp; show w3.heap.size < _; omega) (Oq17.out.ge.mono (by first | omega | (simp; done) | (simp; omega))))).away HB10_2.out (Disj.mk (B := w3.heap.size + 1) (fun p hp => by cases hp; show w3.heap.size < _; omega) (Oq18.out.ge.mono (by first | omega | (simp; done) | (simp; omega)))))
  obtain ⟨k14_0, k14_1, k14_2⟩ := K14.out.c3
  have k14_lt := K14.out.lt
  go_wp2_with (fail)
  refine (laws_eqEntry_same _ _ _ _).mono ?_
  clear k13_0 k13_1 k13_2 k13_lt k14_0 k14_1 k14_2 k14_lt
  rintro e w11 ⟨rfl, hb11⟩
  have HB11 := Lib.hid hb11
  clear hb11
  have RB11 := Lib.hid (Below.trans RB10.out (HB11.out.mono RB10.out.size))
  have hz11 := HB11.out.size
  have K15 := Lib.hid (((((((((by simpa using (Blk.new (w5.alloc (.cells #[.int .i64 (popX xs900 xs901 xs902 x0).a, .int .i64 (popX xs900 xs901 xs902 x0).b, .int .i64 (popX xs900 xs901 xs902 x0).c] 38)) 30 #[.slice Aq10 nq10 cq10, .slice Aq11 nq11 cq11, .slice Aq12 nq12 cq12, .int .i64 (popT xs900 xs901 xs902 x0)]) : Blk _ (w5.heap.size + 1) _ _).on HB6.out).on HB7.out).drew.on HB8.out).on HB9.out).away HB10.out (Disj.mk (B := w4.heap.size) (Oq7_lt.mono (by omega)) (fun p hp => by cases hp; show _ ≤ w5.heap.size + 1; omega)).symm).away HB10_1.out (Disj.mk (B := w4.heap.size) (Oq8_lt.mono (by omega)) (fun p hp => by cases hp; show _ ≤ w5.heap.size + 1; omega)).symm).away HB10_2.out (Disj.mk (B := w4.heap.size) (Oq9_lt.mono (by omega)) (fun p hp => by cases hp; show _ ≤ w5.heap.size + 1; omega)).symm).on HB11.out)
  obtain ⟨k15_0, k15_1, k15_2, k15_3⟩ := K15.out.c4
  have k15_lt := K15.out.lt
  have K16 := Lib.hid ((((((((((((((by simpa using (Blk.new (w3.alloc (.cells #[.int .i64 (popX xs900 xs901 xs902 x0).a, .int .i64 (popX xs900 xs901 xs902 x0).b, .int .i64 (popX xs900 xs901 xs902 x0).c] 38)) 30 #[.slice Aq4 nq4 cq4, .slice Aq5 nq5 cq5, .slice Aq6 nq6 cq6, .int .i64 (popT xs900 xs901 xs902 x0)]) : Blk _ (w3.heap.size + 1) _ _).on HB4.out).alloc _).on HB5.out).alloc _).alloc _).on HB6.out).on HB7.out).drew.on HB8.out).on HB9.out).away HB10.out (Disj.mk (B := w3.heap.size + 1 + 1) (fun p hp => by cases hp; show w3.heap.size + 1 < _; omega) (Oq16.out.ge.mono (by first | omega | (simp; done) | (simp; omega))))).away HB10_1.out (Disj.mk (B := w3.heap.size + 1 + 1) (fun p hp => by cases hp; show w3.heap.size + 1 < _; omega) (Oq17.out.ge.mono (by first | omega | (simp; done) | (simp; omega))))).away HB10_2.out (Disj.mk (B := w3.heap.size + 1 + 1) (fun p hp => by cases hp; show w3.heap.size + 1 < _; omega) (Oq18.out.ge.mono (by first | omega | (simp; done) | (simp; omega))))).on HB11.out)
  obtain ⟨k16_0, k16_1, k16_2, k16_3⟩ := K16.out.c4
  have k16_lt := K16.out.lt
  go_wp2_with (fail)
  refine (laws_eqQueue_same _ _ ((((((((((Oq10.out.alloc _).alloc _).below HB6.out (Nat.le_refl _)).below HB7.out (Nat.le_refl _)).drew.below HB8.out (Nat.le_refl _)).below HB9.out (Nat.le_refl _)).away HB10.out (Disj.mk (B := w4.heap.size) (Oq7_lt.mono (by omega)) (Oq10.out.ge.mono (by first | omega | (simp; done) | (simp; omega)))).symm).away HB10_1.out (Disj.mk (B := w4.heap.size) (Oq8_lt.mono (by omega)) (Oq10.out.ge.mono (by first | omega | (simp; done) | (simp; omega)))).symm).away HB10_2.out (Disj.mk (B := w4.heap.size) (Oq9_lt.mono (by omega)) (Oq10.out.ge.mono (by first | omega | (simp; done) | (simp; omega)))).symm).below HB11.out (Nat.le_refl _)).ts ((((((((((Oq11.out.alloc _).alloc _).below HB6.out (Nat.le_refl _)).below HB7.out (Nat.le_refl _)).drew.below HB8.out (Nat.le_refl _)).below HB9.out (Nat.le_refl _)).away HB10.out (Disj.mk (B := w4.heap.size) (Oq7_lt.mono (by omega)) (Oq11.out.ge.mono (by first | omega | (simp; done) | (simp; omega)))).symm).away HB10_1.out (Disj.mk (B := w4.heap.size) (Oq8_lt.mono (by omega)) (Oq11.out.ge.mono (by first | omega | (simp; done) | (simp; omega)))).symm).away HB10_2.out (Disj.mk (B := w4.heap.size) (Oq9_lt.mono (by omega)) (Oq11.out.ge.mono (by first | omega | (simp; done) | (simp; omega)))).symm).below HB11.out (Nat.le_refl _)).is ((((((((((Oq12.out.alloc _).alloc _).below HB6.out (Nat.le_refl _)).below HB7.out (Nat.le_refl _)).drew.below HB8.out (Nat.le_refl _)).below HB9.out (Nat.le_refl _)).away HB10.out (Disj.mk (B := w4.heap.size) (Oq7_lt.mono (by omega)) (Oq12.out.ge.mono (by first | omega | (simp; done) | (simp; omega)))).symm).away HB10_1.out (Disj.mk (B := w4.heap.size) (Oq8_lt.mono (by omega)) (Oq12.out.ge.mono (by first | omega | (simp; done) | (simp; omega)))).symm).away HB10_2.out (Disj.mk (B := w4.heap.size) (Oq9_lt.mono (by omega)) (Oq12.out.ge.mono (by first | omega | (simp; done) | (simp; omega)))).symm).below HB11.out (Nat.le_refl _)).is (((((((((((((((Oq4.out.alloc _).alloc _).below HB4.out (Nat.le_refl _)).alloc _).below HB5.out (Nat.le_refl _)).alloc _).alloc _).below HB6.out (Nat.le_refl _)).below HB7.out (Nat.le_refl _)).drew.below HB8.out (Nat.le_refl _)).below HB9.out (Nat.le_refl _)).away HB10.out (Disj.mk (B := w3.heap.size) (Oq4_lt.mono (by omega)) (Oq16.out.ge.mono (by first | omega | (simp; done) | (simp; omega))))).away HB10_1.out (Disj.mk (B := w3.heap.size) (Oq4_lt.mono (by omega)) (Oq17.out.ge.mono (by first | omega | (simp; done) | (simp; omega))))).away HB10_2.out (Disj.mk (B := w3.heap.size) (Oq4_lt.mono (by omega)) (Oq18.out.ge.mono (by first | omega | (simp; done) | (simp; omega))))).below HB11.out (Nat.le_refl _)).ts (((((((((((((((Oq5.out.alloc _).alloc _).below HB4.out (Nat.le_refl _)).alloc _).below HB5.out (Nat.le_refl _)).alloc _).alloc _).below HB6.out (Nat.le_refl _)).below HB7.out (Nat.le_refl _)).drew.below HB8.out (Nat.le_refl _)).below HB9.out (Nat.le_refl _)).away HB10.out (Disj.mk (B := w3.heap.size) (Oq5_lt.mono (by omega)) (Oq16.out.ge.mono (by first | omega | (simp; done) | (simp; omega))))).away HB10_1.out (Disj.mk (B := w3.heap.size) (Oq5_lt.mono (by omega)) (Oq17.out.ge.mono (by first | omega | (simp; done) | (simp; omega))))).away HB10_2.out (Disj.mk (B := w3.heap.size) (Oq5_lt.mono (by omega)) (Oq18.out.ge.mono (by first | omega | (simp; done) | (simp; omega))))).below HB11.out (Nat.le_refl _)).is (((((((((((((((Oq6.out.alloc _).alloc _).below HB4.out (Nat.le_refl _)).alloc _).below HB5.out (Nat.le_refl _)).alloc _).alloc _).below HB6.out (Nat.le_refl _)).below HB7.out (Nat.le_refl _)).drew.below HB8.out (Nat.le_refl _)).below HB9.out (Nat.le_refl _)).away HB10.out (Disj.mk (B := w3.heap.size) (Oq6_lt.mono (by omega)) (Oq16.out.ge.mono (by first | omega | (simp; done) | (simp; omega))))).away HB10_1.out (Disj.mk (B := w3.heap.size) (Oq6_lt.mono (by omega)) (Oq17.out.ge.mono (by first | omega | (simp; done) | (simp; omega))))).away HB10_2.out (Disj.mk (B := w3.heap.size) (Oq6_lt.mono (by omega)) (Oq18.out.ge.mono (by first | omega | (simp; done) | (simp; omega))))).below HB11.out (Nat.le_refl _)).is).mono ?_
  clear k15_0 k15_1 k15_2 k15_3 k15_lt k16_0 k16_1 k16_2 k16_3 k16_lt
  rintro e w12 ⟨rfl, hb12⟩
  have HB12 := Lib.hid hb12
  clear hb12
  have RB12 := Lib.hid (Below.trans RB11.out (HB12.out.mono RB11.out.size))
  have hz12 := HB12.out.size
  have K17 := Lib.hid ((((((((((by simpa using (Blk.new (w5.alloc (.cells #[.int .i64 (popX xs900 xs901 xs902 x0).a, .int .i64 (popX xs900 xs901 xs902 x0).b, .int .i64 (popX xs900 xs901 xs902 x0).c] 38)) 30 #[.slice Aq10 nq10 cq10, .slice Aq11 nq11 cq11, .slice Aq12 nq12 cq12, .int .i64 (popT xs900 xs901 xs902 x0)]) : Blk _ (w5.heap.size + 1) _ _).on HB6.out).on HB7.out).drew.on HB8.out).on HB9.out).away HB10.out (Disj.mk (B := w4.heap.size) (Oq7_lt.mono (by omega)) (fun p hp => by cases hp; show _ ≤ w5.heap.size + 1; omega)).symm).away HB10_1.out (Disj.mk (B := w4.heap.size) (Oq8_lt.mono (by omega)) (fun p hp => by cases hp; show _ ≤ w5.heap.size + 1; omega)).symm).away HB10_2.out (Disj.mk (B := w4.heap.size) (Oq9_lt.mono (by omega)) (fun p hp => by cases hp; show _ ≤ w5.heap.size + 1; omega)).symm).on HB11.out).on HB12.out)
  obtain ⟨k17_0, k17_1, k17_2, k17_3⟩ := K17.out.c4
  have k17_lt := K17.out.lt
  go_wp2_with (fail)
  refine (laws_markQueue_any _ _ _ (((((((((((Oq10.out.alloc _).alloc _).below HB6.out (Nat.le_refl _)).below HB7.out (Nat.le_refl _)).drew.below HB8.out (Nat.le_refl _)).below HB9.out (Nat.le_refl _)).away HB10.out (Disj.mk (B := w4.heap.size) (Oq7_lt.mono (by omega)) (Oq10.out.ge.mono (by first | omega | (simp; done) | (simp; omega)))).symm).away HB10_1.out (Disj.mk (B := w4.heap.size) (Oq8_lt.mono (by omega)) (Oq10.out.ge.mono (by first | omega | (simp; done) | (simp; omega)))).symm).away HB10_2.out (Disj.mk (B := w4.heap.size) (Oq9_lt.mono (by omega)) (Oq10.out.ge.mono (by first | omega | (simp; done) | (simp; omega)))).symm).below HB11.out (Nat.le_refl _)).below HB12.out (Nat.le_refl _)) (((((((((((Oq11.out.alloc _).alloc _).below HB6.out (Nat.le_refl _)).below HB7.out (Nat.le_refl _)).drew.below HB8.out (Nat.le_refl _)).below HB9.out (Nat.le_refl _)).away HB10.out (Disj.mk (B := w4.heap.size) (Oq7_lt.mono (by omega)) (Oq11.out.ge.mono (by first | omega | (simp; done) | (simp; omega)))).symm).away HB10_1.out (Disj.mk (B := w4.heap.size) (Oq8_lt.mono (by omega)) (Oq11.out.ge.mono (by first | omega | (simp; done) | (simp; omega)))).symm).away HB10_2.out (Disj.mk (B := w4.heap.size) (Oq9_lt.mono (by omega)) (Oq11.out.ge.mono (by first | omega | (simp; done) | (simp; omega)))).symm).below HB11.out (Nat.le_refl _)).below HB12.out (Nat.le_refl _)) (((((((((((Oq12.out.alloc _).alloc _).below HB6.out (Nat.le_refl _)).below HB7.out (Nat.le_refl _)).drew.below HB8.out (Nat.le_refl _)).below HB9.out (Nat.le_refl _)).away HB10.out (Disj.mk (B := w4.heap.size) (Oq7_lt.mono (by omega)) (Oq12.out.ge.mono (by first | omega | (simp; done) | (simp; omega)))).symm).away HB10_1.out (Disj.mk (B := w4.heap.size) (Oq8_lt.mono (by omega)) (Oq12.out.ge.mono (by first | omega | (simp; done) | (simp; omega)))).symm).away HB10_2.out (Disj.mk (B := w4.heap.size) (Oq9_lt.mono (by omega)) (Oq12.out.ge.mono (by first | omega | (simp; done) | (simp; omega)))).symm).below HB11.out (Nat.le_refl _)).below HB12.out (Nat.le_refl _)) D10.out D11.out D12.out (by omega) (by omega) (by omega) (by omega) (by omega)).mono ?_
  clear k17_0 k17_1 k17_2 k17_3 k17_lt
  rintro e w13 ⟨rfl, hq19, hq20, hq21, wm13_1, wm13_2, hb13, hb13_1, hb13_2⟩
  have HB13 := Lib.hid hb13
  clear hb13
  have HB13_1 := Lib.hid hb13_1
  clear hb13_1
  have HB13_2 := Lib.hid hb13_2
  clear hb13_2
  have Oq19 := Lib.hid hq19
  clear hq19
  have Oq20 := Lib.hid hq20
  clear hq20
  have Oq21 := Lib.hid hq21
  clear hq21
  have RB13 := Lib.hid (below_row (below_row (below_row RB12.out HB13.out RB12.out.size (Oq10.out.ge.mono (by first | omega | (simp; done) | (simp; omega)))) HB13_1.out (Nat.le_trans RB12.out.size HB13.out.size) (Oq11.out.ge.mono (by first | omega | (simp; done) | (simp; omega)))) HB13_2.out (Nat.le_trans (Nat.le_trans RB12.out.size HB13.out.size) HB13_1.out.size) (Oq12.out.ge.mono (by first | omega | (simp; done) | (simp; omega))))
  have HBs13 := (Nat.le_trans (Nat.le_trans HB13.out.size HB13_1.out.size) HB13_2.out.size)
  have hz13 := HBs13
  have K18 := Lib.hid (((((((((((((by simpa using (Blk.new (w5.alloc (.cells #[.int .i64 (popX xs900 xs901 xs902 x0).a, .int .i64 (popX xs900 xs901 xs902 x0).b, .int .i64 (popX xs900 xs901 xs902 x0).c] 38)) 30 #[.slice Aq10 nq10 cq10, .slice Aq11 nq11 cq11, .slice Aq12 nq12 cq12, .int .i64 (popT xs900 xs901 xs902 x0)]) : Blk _ (w5.heap.size + 1) _ _).on HB6.out).on HB7.out).drew.on HB8.out).on HB9.out).away HB10.out (Disj.mk (B := w4.heap.size) (Oq7_lt.mono (by omega)) (fun p hp => by cases hp; show _ ≤ w5.heap.size + 1; omega)).symm).away HB10_1.out (Disj.mk (B := w4.heap.size) (Oq8_lt.mono (by omega)) (fun p hp => by cases hp; show _ ≤ w5.heap.size + 1; omega)).symm).away HB10_2.out (Disj.mk (B := w4.heap.size) (Oq9_lt.mono (by omega)) (fun p hp => by cases hp; show _ ≤ w5.heap.size + 1; omega)).symm).on HB11.out).on HB12.out).away HB13.out (Disj.mk (B := w5.heap.size) (Oq10_lt.mono (by omega)) (fun p hp => by cases hp; show _ ≤ w5.heap.size + 1; omega)).symm).away HB13_1.out (Disj.mk (B := w5.heap.size) (Oq11_lt.mono (by omega)) (fun p hp => by cases hp; show _ ≤ w5.heap.size + 1; omega)).symm).away HB13_2.out (Disj.mk (B := w5.heap.size) (Oq12_lt.mono (by omega)) (fun p hp => by cases hp; show _ ≤ w5.heap.size + 1; omega)).symm)
  obtain ⟨k18_0, k18_1, k18_2, k18_3⟩ := K18.out.c4
  have k18_lt := K18.out.lt
  go_wp2_with (fail)
  refine (laws_heldQueue_any _ _ _ Oq19.out.ts Oq20.out.is Oq21.out.is (by omega) (by omega) (by omega) (by omega) (by omega)).mono ?_
  clear k18_0 k18_1 k18_2 k18_3 k18_lt
  rintro e w14 ⟨rfl, hb14⟩
  have HB14 := Lib.hid hb14
  clear hb14
  have RB14 := Lib.hid (Below.trans RB13.out (HB14.out.mono RB13.out.size))
  have hz14 := HB14.out.size
  have K19 := Lib.hid ((((((((((((((((((((((((Blk.new w 25 #[.slice A900 n900 c900, .slice A901 n901 c901, .slice A902 n902 c902, .int .i64 x0]).on HB1.out).on HB2.out).on HB3.out).alloc _).alloc _).on HB4.out).alloc _).on HB5.out).alloc _).alloc _).on HB6.out).on HB7.out).drew.on HB8.out).on HB9.out).away HB10.out (Disj.mk (B := w.heap.size + 1) (fun p hp => by cases hp; show w.heap.size < _; omega) (Oq16.out.ge.mono (by first | omega | (simp; done) | (simp; omega))))).away HB10_1.out (Disj.mk (B := w.heap.size + 1) (fun p hp => by cases hp; show w.heap.size < _; omega) (Oq17.out.ge.mono (by first | omega | (simp; done) | (simp; omega))))).away HB10_2.out (Disj.mk (B := w.heap.size + 1) (fun p hp => by cases hp; show w.heap.size < _; omega) (Oq18.out.ge.mono (by first | omega | (simp; done) | (simp; omega))))).on HB11.out).on HB12.out).away HB13.out (Disj.mk (B := w.heap.size + 1) (fun p hp => by cases hp; show w.heap.size < _; omega) (Oq19.out.ge.mono (by first | omega | (simp; done) | (simp; omega))))).away HB13_1.out (Disj.mk (B := w.heap.size + 1) (fun p hp => by cases hp; show w.heap.size < _; omega) (Oq20.out.ge.mono (by first | omega | (simp; done) | (simp; omega))))).away HB13_2.out (Disj.mk (B := w.heap.size + 1) (fun p hp => by cases hp; show w.heap.size < _; omega) (Oq21.out.ge.mono (by first | omega | (simp; done) | (simp; omega))))).on HB14.out)
  obtain ⟨k19_0, k19_1, k19_2, k19_3⟩ := K19.out.c4
  have k19_lt := K19.out.lt
  go_wp2_with (fail)
  refine (laws_toQueue_any _ _ (H900.out.below RB14.out (Nat.le_refl _)) (H901.out.below RB14.out (Nat.le_refl _)) (H902.out.below RB14.out (Nat.le_refl _)) (by omega) (by omega) (by omega)).mono ?_
  clear k19_0 k19_1 k19_2 k19_3 k19_lt
  rintro e w15 ⟨Aq22, nq22, cq22, Aq23, nq23, cq23, Aq24, nq24, cq24, rfl, hq22, hq23, hq24, hD16, hD17, hD18, hb15⟩
  have HB15 := Lib.hid hb15
  clear hb15
  have Oq22 := Lib.hid hq22
  clear hq22
  have Oq23 := Lib.hid hq23
  clear hq23
  have Oq24 := Lib.hid hq24
  clear hq24
  have D16 := Lib.hid hD16
  clear hD16
  have D17 := Lib.hid hD17
  clear hD17
  have D18 := Lib.hid hD18
  clear hD18
  have Oq22_n : nq22 ≤ 1048576 := (by have h1 := Oq22.out.len; have h2 := H900.out.len; omega)
  have Oq23_n : nq23 ≤ 1048576 := (by have h1 := Oq23.out.len; have h2 := H901.out.len; omega)
  have Oq24_n : nq24 ≤ 1048576 := (by have h1 := Oq24.out.len; have h2 := H902.out.len; omega)
  have RB15 := Lib.hid (Below.trans RB14.out (HB15.out.mono RB14.out.size))
  have hz15 := HB15.out.size
  have Oq22_lt : Lt Aq22 w15.heap.size := Oq22.out.lt
  have Oq23_lt : Lt Aq23 w15.heap.size := Oq23.out.lt
  have Oq24_lt : Lt Aq24 w15.heap.size := Oq24.out.lt
  go_wp2_with (fail)
  refine (impl_PopEntry_any _ _ Oq22.out.ts Oq23.out.is Oq24.out.is).mono ?_
  rintro e w16 ⟨Aq25, nq25, cq25, Aq26, nq26, cq26, Aq27, nq27, cq27, rfl, hq25, hq26, hq27, hD19, hD20, hD21, hb16⟩
  have HB16 := Lib.hid hb16
  clear hb16
  have Oq25 := Lib.hid hq25
  clear hq25
  have Oq26 := Lib.hid hq26
  clear hq26
  have Oq27 := Lib.hid hq27
  clear hq27
  have D19 := Lib.hid hD19
  clear hD19
  have D20 := Lib.hid hD20
  clear hD20
  have D21 := Lib.hid hD21
  clear hD21
  have Oq25_n : nq25 ≤ 10 := (by have h1 := Oq25.out.len; have h2 := popL_le xs900 xs901 xs902 x0; omega)
  have Oq26_n : nq26 ≤ 3 := (by have h1 := Oq26.out.len; have h2 := popH_le xs900 xs901 xs902 x0; omega)
  have Oq27_n : nq27 ≤ 3 := (by have h1 := Oq27.out.len; have h2 := popD_le xs900 xs901 xs902 x0; omega)
  have RB16 := Lib.hid (Below.trans RB15.out (HB16.out.mono RB15.out.size))
  have hz16 := HB16.out.size
  have Oq25_lt : Lt Aq25 w16.heap.size := Oq25.out.lt
  have Oq26_lt : Lt Aq26 w16.heap.size := Oq26.out.lt
  have Oq27_lt : Lt Aq27 w16.heap.size := Oq27.out.lt
  have K20 := Lib.hid ((((((((((((((((((((((Blk.new w3 38 #[.int .i64 (popX xs900 xs901 xs902 x0).a, .int .i64 (popX xs900 xs901 xs902 x0).b, .int .i64 (popX xs900 xs901 xs902 x0).c]).alloc _).on HB4.out).alloc _).on HB5.out).alloc _).alloc _).on HB6.out).on HB7.out).drew.on HB8.out).on HB9.out).away HB10.out (Disj.mk (B := w3.heap.size + 1) (fun p hp => by cases hp; show w3.heap.size < _; omega) (Oq16.out.ge.mono (by first | omega | (simp; done) | (simp; omega))))).away HB10_1.out (Disj.mk (B := w3.heap.size + 1) (fun p hp => by cases hp; show w3.heap.size < _; omega) (Oq17.out.ge.mono (by first | omega | (simp; done) | (simp; omega))))).away HB10_2.out (Disj.mk (B := w3.heap.size + 1) (fun p hp => by cases hp; show w3.heap.size < _; omega) (Oq18.out.ge.mono (by first | omega | (simp; done) | (simp; omega))))).on HB11.out).on HB12.out).away HB13.out (Disj.mk (B := w3.heap.size + 1) (fun p hp => by cases hp; show w3.heap.size < _; omega) (Oq19.out.ge.mono (by first | omega | (simp; done) | (simp; omega))))).away HB13_1.out (Disj.mk (B := w3.heap.size + 1) (fun p hp => by cases hp; show w3.heap.size < _; omega) (Oq20.out.ge.mono (by first | omega | (simp; done) | (simp; omega))))).away HB13_2.out (Disj.mk (B := w3.heap.size + 1) (fun p hp => by cases hp; show w3.heap.size < _; omega) (Oq21.out.ge.mono (by first | omega | (simp; done) | (simp; omega))))).on HB14.out).on HB15.out).on HB16.out)
  obtain ⟨k20_0, k20_1, k20_2⟩ := K20.out.c3
  have k20_lt := K20.out.lt
  go_wp2_with (fail)
  refine (laws_eqEntry_same _ _ _ _).mono ?_
  clear k20_0 k20_1 k20_2 k20_lt
  rintro e w17 ⟨rfl, hb17⟩
  have HB17 := Lib.hid hb17
  clear hb17
  have RB17 := Lib.hid (Below.trans ((RB16.out.alloc (by have := RB16.out.size; first | omega | (simp; done) | (simp; omega)) _).alloc (by have := RB16.out.size; first | omega | (simp; done) | (simp; omega)) _) (HB17.out.mono (by have := RB16.out.size; first | omega | (simp; done) | (simp; omega))))
  have hz17 := HB17.out.size
  simp at hz17
  have K21 := Lib.hid ((by simpa using (Blk.new (w16.alloc (.cells #[.int .i64 (popX xs900 xs901 xs902 x0).a, .int .i64 (popX xs900 xs901 xs902 x0).b, .int .i64 (popX xs900 xs901 xs902 x0).c] 38)) 30 #[.slice Aq25 nq25 cq25, .slice Aq26 nq26 cq26, .slice Aq27 nq27 cq27, .int .i64 (popT xs900 xs901 xs902 x0)]) : Blk _ (w16.heap.size + 1) _ _).on HB17.out)
  obtain ⟨k21_0, k21_1, k21_2, k21_3⟩ := K21.out.c4
  have k21_lt := K21.out.lt
  have K22 := Lib.hid ((((((((((((((((((((((((by simpa using (Blk.new (w3.alloc (.cells #[.int .i64 (popX xs900 xs901 xs902 x0).a, .int .i64 (popX xs900 xs901 xs902 x0).b, .int .i64 (popX xs900 xs901 xs902 x0).c] 38)) 30 #[.slice Aq4 nq4 cq4, .slice Aq5 nq5 cq5, .slice Aq6 nq6 cq6, .int .i64 (popT xs900 xs901 xs902 x0)]) : Blk _ (w3.heap.size + 1) _ _).on HB4.out).alloc _).on HB5.out).alloc _).alloc _).on HB6.out).on HB7.out).drew.on HB8.out).on HB9.out).away HB10.out (Disj.mk (B := w3.heap.size + 1 + 1) (fun p hp => by cases hp; show w3.heap.size + 1 < _; omega) (Oq16.out.ge.mono (by first | omega | (simp; done) | (simp; omega))))).away HB10_1.out (Disj.mk (B := w3.heap.size + 1 + 1) (fun p hp => by cases hp; show w3.heap.size + 1 < _; omega) (Oq17.out.ge.mono (by first | omega | (simp; done) | (simp; omega))))).away HB10_2.out (Disj.mk (B := w3.heap.size + 1 + 1) (fun p hp => by cases hp; show w3.heap.size + 1 < _; omega) (Oq18.out.ge.mono (by first | omega | (simp; done) | (simp; omega))))).on HB11.out).on HB12.out).away HB13.out (Disj.mk (B := w3.heap.size + 1 + 1) (fun p hp => by cases hp; show w3.heap.size + 1 < _; omega) (Oq19.out.ge.mono (by first | omega | (simp; done) | (simp; omega))))).away HB13_1.out (Disj.mk (B := w3.heap.size + 1 + 1) (fun p hp => by cases hp; show w3.heap.size + 1 < _; omega) (Oq20.out.ge.mono (by first | omega | (simp; done) | (simp; omega))))).away HB13_2.out (Disj.mk (B := w3.heap.size + 1 + 1) (fun p hp => by cases hp; show w3.heap.size + 1 < _; omega) (Oq21.out.ge.mono (by first | omega | (simp; done) | (simp; omega))))).on HB14.out).on HB15.out).on HB16.out).alloc _).alloc _).on HB17.out)
  obtain ⟨k22_0, k22_1, k22_2, k22_3⟩ := K22.out.c4
  have k22_lt := K22.out.lt
  go_wp2_with (fail)
  refine (laws_eqQueue_same _ _ (((Oq25.out.alloc _).alloc _).below HB17.out (Nat.le_refl _)).ts (((Oq26.out.alloc _).alloc _).below HB17.out (Nat.le_refl _)).is (((Oq27.out.alloc _).alloc _).below HB17.out (Nat.le_refl _)).is (((((((((((((((((((((((((Oq4.out.alloc _).alloc _).below HB4.out (Nat.le_refl _)).alloc _).below HB5.out (Nat.le_refl _)).alloc _).alloc _).below HB6.out (Nat.le_refl _)).below HB7.out (Nat.le_refl _)).drew.below HB8.out (Nat.le_refl _)).below HB9.out (Nat.le_refl _)).away HB10.out (Disj.mk (B := w3.heap.size) (Oq4_lt.mono (by omega)) (Oq16.out.ge.mono (by first | omega | (simp; done) | (simp; omega))))).away HB10_1.out (Disj.mk (B := w3.heap.size) (Oq4_lt.mono (by omega)) (Oq17.out.ge.mono (by first | omega | (simp; done) | (simp; omega))))).away HB10_2.out (Disj.mk (B := w3.heap.size) (Oq4_lt.mono (by omega)) (Oq18.out.ge.mono (by first | omega | (simp; done) | (simp; omega))))).below HB11.out (Nat.le_refl _)).below HB12.out (Nat.le_refl _)).away HB13.out (Disj.mk (B := w3.heap.size) (Oq4_lt.mono (by omega)) (Oq19.out.ge.mono (by first | omega | (simp; done) | (simp; omega))))).away HB13_1.out (Disj.mk (B := w3.heap.size) (Oq4_lt.mono (by omega)) (Oq20.out.ge.mono (by first | omega | (simp; done) | (simp; omega))))).away HB13_2.out (Disj.mk (B := w3.heap.size) (Oq4_lt.mono (by omega)) (Oq21.out.ge.mono (by first | omega | (simp; done) | (simp; omega))))).below HB14.out (Nat.le_refl _)).below HB15.out (Nat.le_refl _)).below HB16.out (Nat.le_refl _)).alloc _).alloc _).below HB17.out (Nat.le_refl _)).ts (((((((((((((((((((((((((Oq5.out.alloc _).alloc _).below HB4.out (Nat.le_refl _)).alloc _).below HB5.out (Nat.le_refl _)).alloc _).alloc _).below HB6.out (Nat.le_refl _)).below HB7.out (Nat.le_refl _)).drew.below HB8.out (Nat.le_refl _)).below HB9.out (Nat.le_refl _)).away HB10.out (Disj.mk (B := w3.heap.size) (Oq5_lt.mono (by omega)) (Oq16.out.ge.mono (by first | omega | (simp; done) | (simp; omega))))).away HB10_1.out (Disj.mk (B := w3.heap.size) (Oq5_lt.mono (by omega)) (Oq17.out.ge.mono (by first | omega | (simp; done) | (simp; omega))))).away HB10_2.out (Disj.mk (B := w3.heap.size) (Oq5_lt.mono (by omega)) (Oq18.out.ge.mono (by first | omega | (simp; done) | (simp; omega))))).below HB11.out (Nat.le_refl _)).below HB12.out (Nat.le_refl _)).away HB13.out (Disj.mk (B := w3.heap.size) (Oq5_lt.mono (by omega)) (Oq19.out.ge.mono (by first | omega | (simp; done) | (simp; omega))))).away HB13_1.out (Disj.mk (B := w3.heap.size) (Oq5_lt.mono (by omega)) (Oq20.out.ge.mono (by first | omega | (simp; done) | (simp; omega))))).away HB13_2.out (Disj.mk (B := w3.heap.size) (Oq5_lt.mono (by omega)) (Oq21.out.ge.mono (by first | omega | (simp; done) | (simp; omega))))).below HB14.out (Nat.le_refl _)).below HB15.out (Nat.le_refl _)).below HB16.out (Nat.le_refl _)).alloc _).alloc _).below HB17.out (Nat.le_refl _)).is (((((((((((((((((((((((((Oq6.out.alloc _).alloc _).below HB4.out (Nat.le_refl _)).alloc _).below HB5.out (Nat.le_refl _)).alloc _).alloc _).below HB6.out (Nat.le_refl _)).below HB7.out (Nat.le_refl _)).drew.below HB8.out (Nat.le_refl _)).below HB9.out (Nat.le_refl _)).away HB10.out (Disj.mk (B := w3.heap.size) (Oq6_lt.mono (by omega)) (Oq16.out.ge.mono (by first | omega | (simp; done) | (simp; omega))))).away HB10_1.out (Disj.mk (B := w3.heap.size) (Oq6_lt.mono (by omega)) (Oq17.out.ge.mono (by first | omega | (simp; done) | (simp; omega))))).away HB10_2.out (Disj.mk (B := w3.heap.size) (Oq6_lt.mono (by omega)) (Oq18.out.ge.mono (by first | omega | (simp; done) | (simp; omega))))).below HB11.out (Nat.le_refl _)).below HB12.out (Nat.le_refl _)).away HB13.out (Disj.mk (B := w3.heap.size) (Oq6_lt.mono (by omega)) (Oq19.out.ge.mono (by first | omega | (simp; done) | (simp; omega))))).away HB13_1.out (Disj.mk (B := w3.heap.size) (Oq6_lt.mono (by omega)) (Oq20.out.ge.mono (by first | omega | (simp; done) | (simp; omega))))).away HB13_2.out (Disj.mk (B := w3.heap.size) (Oq6_lt.mono (by omega)) (Oq21.out.ge.mono (by first | omega | (simp; done) | (simp; omega))))).below HB14.out (Nat.le_refl _)).below HB15.out (Nat.le_refl _)).below HB16.out (Nat.le_refl _)).alloc _).alloc _).below HB17.out (Nat.le_refl _)).is).mono ?_
  clear k21_0 k21_1 k21_2 k21_3 k21_lt k22_0 k22_1 k22_2 k22_3 k22_lt
  rintro e w18 ⟨rfl, hb18⟩
  have HB18 := Lib.hid hb18
  clear hb18
  have RB18 := Lib.hid (Below.trans RB17.out (HB18.out.mono RB17.out.size))
  have hz18 := HB18.out.size
  have K23 := Lib.hid ((((((((((((((((((((by simpa using (Blk.new (w5.alloc (.cells #[.int .i64 (popX xs900 xs901 xs902 x0).a, .int .i64 (popX xs900 xs901 xs902 x0).b, .int .i64 (popX xs900 xs901 xs902 x0).c] 38)) 30 #[.slice Aq10 nq10 cq10, .slice Aq11 nq11 cq11, .slice Aq12 nq12 cq12, .int .i64 (popT xs900 xs901 xs902 x0)]) : Blk _ (w5.heap.size + 1) _ _).on HB6.out).on HB7.out).drew.on HB8.out).on HB9.out).away HB10.out (Disj.mk (B := w4.heap.size) (Oq7_lt.mono (by omega)) (fun p hp => by cases hp; show _ ≤ w5.heap.size + 1; omega)).symm).away HB10_1.out (Disj.mk (B := w4.heap.size) (Oq8_lt.mono (by omega)) (fun p hp => by cases hp; show _ ≤ w5.heap.size + 1; omega)).symm).away HB10_2.out (Disj.mk (B := w4.heap.size) (Oq9_lt.mono (by omega)) (fun p hp => by cases hp; show _ ≤ w5.heap.size + 1; omega)).symm).on HB11.out).on HB12.out).away HB13.out (Disj.mk (B := w5.heap.size) (Oq10_lt.mono (by omega)) (fun p hp => by cases hp; show _ ≤ w5.heap.size + 1; omega)).symm).away HB13_1.out (Disj.mk (B := w5.heap.size) (Oq11_lt.mono (by omega)) (fun p hp => by cases hp; show _ ≤ w5.heap.size + 1; omega)).symm).away HB13_2.out (Disj.mk (B := w5.heap.size) (Oq12_lt.mono (by omega)) (fun p hp => by cases hp; show _ ≤ w5.heap.size + 1; omega)).symm).on HB14.out).on HB15.out).on HB16.out).alloc _).alloc _).on HB17.out).on HB18.out)
  obtain ⟨k23_0, k23_1, k23_2, k23_3⟩ := K23.out.c4
  have k23_lt := K23.out.lt
  go_wp2_with (fail)
  refine (laws_heldQueue_any _ _ _ (((((((Oq19.out.below HB14.out (Nat.le_refl _)).below HB15.out (Nat.le_refl _)).below HB16.out (Nat.le_refl _)).alloc _).alloc _).below HB17.out (Nat.le_refl _)).below HB18.out (Nat.le_refl _)).ts (((((((Oq20.out.below HB14.out (Nat.le_refl _)).below HB15.out (Nat.le_refl _)).below HB16.out (Nat.le_refl _)).alloc _).alloc _).below HB17.out (Nat.le_refl _)).below HB18.out (Nat.le_refl _)).is (((((((Oq21.out.below HB14.out (Nat.le_refl _)).below HB15.out (Nat.le_refl _)).below HB16.out (Nat.le_refl _)).alloc _).alloc _).below HB17.out (Nat.le_refl _)).below HB18.out (Nat.le_refl _)).is (by omega) (by omega) (by omega) (by omega) (by omega)).mono ?_
  clear k23_0 k23_1 k23_2 k23_3 k23_lt
  rintro e w19 ⟨rfl, hb19⟩
  have HB19 := Lib.hid hb19
  clear hb19
  have RB19 := Lib.hid (Below.trans RB18.out (HB19.out.mono RB18.out.size))
  have hz19 := HB19.out.size
  go_wp2_with (fail)
  go_ret
  exact ⟨rfl, RB19.out⟩
end Go.Proofs.Ytccgfeenjffnpaa
