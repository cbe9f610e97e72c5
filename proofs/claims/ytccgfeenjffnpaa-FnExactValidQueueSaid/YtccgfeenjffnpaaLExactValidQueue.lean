/-
  The law FnExactValidQueue: its walk. (Written by a program of my own off the law's operations.)
-/
/-
-- CALL: i0 W s0 s1 s2
-/
import Derived.Test.YtccgfeenjffnpaaQuW
import Derived.Test.YtccgfeenjffnpaaQuA
import Derived.Test.YtccgfeenjffnpaaQuD
import Derived.Deep.RegionHeld3
import Derived.Deep.DrawnRows
import Derived.Deep.DeepMust
namespace Go.Proofs.Ytccgfeenjffnpaa
open Go.RowKit
attribute [local go_sem ↓] Go.wp_at_zero Go.wp_at_succ
set_option maxHeartbeats 4000000 in
theorem walk_FnExactValidQueue {A900 : Option Addr} {n900 c900 : Nat} {xs900 : List Tr} {A901 : Option Addr} {n901 c901 : Nat} {xs901 : List Int} {A902 : Option Addr} {n902 c902 : Nat} {xs902 : List Int} (x0 : Int) (w : World) (h900 : TS w A900 n900 c900 xs900) (h901 : IS w A901 n901 c901 xs901) (h902 : IS w A902 n902 c902 xs902) :
    Calls Try.prog 3 #[.agg #[.slice A900 n900 c900, .slice A901 n901 c901, .slice A902 n902 c902, .int .i64 x0]] w fun e w' => e = .returned (.bool true) ∧ Below w.heap.size w w' := by
  have hcap900 := h900.cap
  have H900 := Lib.hid h900
  clear h900
  have hcap901 := h901.cap
  have H901 := Lib.hid h901
  clear h901
  have hcap902 := h902.cap
  have H902 := Lib.hid h902
  clear h902
  rcases Int.lt_or_le (1048576 : Int) ((n900 + n901 + n902 : Nat) : Int) with hs1 | hs1
  · have he1 := Lib.hid (szL_lo hs1)
    have RB0 : Hid (Below w.heap.size w w) := Lib.hid (Below.refl _ _)
    go_enter Try.func3, Try.ntmps3
    go_wp2_with (fail)
    refine (laws_szQueue_any _ _ _ hcap900 hcap901 hcap902 (by omega) (by omega)).mono ?_
    rintro e w1 ⟨rfl, hb1⟩
    have HB1 := Lib.hid hb1
    clear hb1
    rw [he1.out]
    have RB1 := Lib.hid (Below.trans (RB0.out.alloc (by have := RB0.out.size; first | omega | (simp; done) | (simp; omega)) _) (HB1.out.mono (by have := RB0.out.size; first | omega | (simp; done) | (simp; omega))))
    have hz1 := HB1.out.size
    simp at hz1
    go_wp2_with (fail)
    go_ret
    exact ⟨rfl, RB1.out⟩
  have he1 := Lib.hid (szL_hi hs1)
  have hx1 : 0 ≤ (1048576 : Int) - ((n900 + n901 + n902 : Nat) : Int) := by omega
  have RB0 : Hid (Below w.heap.size w w) := Lib.hid (Below.refl _ _)
  go_enter Try.func3, Try.ntmps3
  go_wp2_with (fail)
  refine (laws_szQueue_any _ _ _ hcap900 hcap901 hcap902 (by omega) (by omega)).mono ?_
  rintro e w1 ⟨rfl, hb1⟩
  have HB1 := Lib.hid hb1
  clear hb1
  rw [he1.out]
  have RB1 := Lib.hid (Below.trans (RB0.out.alloc (by have := RB0.out.size; first | omega | (simp; done) | (simp; omega)) _) (HB1.out.mono (by have := RB0.out.size; first | omega | (simp; done) | (simp; omega))))
  have hz1 := HB1.out.size
  simp at hz1
  have K1 := Lib.hid ((Blk.new w 25 #[.slice A900 n900 c900, .slice A901 n901 c901, .slice A902 n902 c902, .int .i64 x0]).on HB1.out)
  obtain ⟨k1_0, k1_1, k1_2, k1_3⟩ := K1.out.c4
  have k1_lt := K1.out.lt
  go_wp2_with (fail)
  refine (laws_toQueue_any _ _ (H900.out.below RB1.out (Nat.le_refl _)) (H901.out.below RB1.out (Nat.le_refl _)) (H902.out.below RB1.out (Nat.le_refl _)) (by omega) (by omega) (by omega)).mono ?_
  clear k1_0 k1_1 k1_2 k1_3 k1_lt
  rintro e w2 ⟨Aq1, nq1, cq1, Aq2, nq2, cq2, Aq3, nq3, cq3, rfl, hq1, hq2, hq3, hD1, hD2, hD3, hb2⟩
  have HB2 := Lib.hid hb2
  clear hb2
  have Oq1 := Lib.hid hq1
  clear hq1
  have Oq2 := Lib.hid hq2
  clear hq2
  have Oq3 := Lib.hid hq3
  clear hq3
  have D1 := Lib.hid hD1
  clear hD1
  have D2 := Lib.hid hD2
  clear hD2
  have D3 := Lib.hid hD3
  clear hD3
  have Oq1_n : nq1 ≤ 1048576 := (by have h1 := Oq1.out.len; have h2 := H900.out.len; omega)
  have Oq2_n : nq2 ≤ 1048576 := (by have h1 := Oq2.out.len; have h2 := H901.out.len; omega)
  have Oq3_n : nq3 ≤ 1048576 := (by have h1 := Oq3.out.len; have h2 := H902.out.len; omega)
  have RB2 := Lib.hid (Below.trans RB1.out (HB2.out.mono RB1.out.size))
  have hz2 := HB2.out.size
  have Oq1_lt : Lt Aq1 w2.heap.size := Oq1.out.lt
  have Oq2_lt : Lt Aq2 w2.heap.size := Oq2.out.lt
  have Oq3_lt : Lt Aq3 w2.heap.size := Oq3.out.lt
  go_wp2_with (fail)
  refine (spec_ValidQueue_any _ _ Oq1.out.ts Oq2.out.is Oq3.out.is).mono ?_
  rintro e w3 ⟨rfl, hb3⟩
  have HB3 := Lib.hid hb3
  clear hb3
  have RB3 := Lib.hid (Below.trans RB2.out (HB3.out.mono RB2.out.size))
  have hz3 := HB3.out.size
  have K2 := Lib.hid ((((Blk.new w 25 #[.slice A900 n900 c900, .slice A901 n901 c901, .slice A902 n902 c902, .int .i64 x0]).on HB1.out).on HB2.out).on HB3.out)
  obtain ⟨k2_0, k2_1, k2_2, k2_3⟩ := K2.out.c4
  have k2_lt := K2.out.lt
  go_wp2_with (fail)
  refine (laws_toQueue_any _ _ (H900.out.below RB3.out (Nat.le_refl _)) (H901.out.below RB3.out (Nat.le_refl _)) (H902.out.below RB3.out (Nat.le_refl _)) (by omega) (by omega) (by omega)).mono ?_
  clear k2_0 k2_1 k2_2 k2_3 k2_lt
  rintro e w4 ⟨Aq4, nq4, cq4, Aq5, nq5, cq5, Aq6, nq6, cq6, rfl, hq4, hq5, hq6, hD4, hD5, hD6, hb4⟩
  have HB4 := Lib.hid hb4
  clear hb4
  have Oq4 := Lib.hid hq4
  clear hq4
  have Oq5 := Lib.hid hq5
  clear hq5
  have Oq6 := Lib.hid hq6
  clear hq6
  have D4 := Lib.hid hD4
  clear hD4
  have D5 := Lib.hid hD5
  clear hD5
  have D6 := Lib.hid hD6
  clear hD6
  have Oq4_n : nq4 ≤ 1048576 := (by have h1 := Oq4.out.len; have h2 := H900.out.len; omega)
  have Oq5_n : nq5 ≤ 1048576 := (by have h1 := Oq5.out.len; have h2 := H901.out.len; omega)
  have Oq6_n : nq6 ≤ 1048576 := (by have h1 := Oq6.out.len; have h2 := H902.out.len; omega)
  have RB4 := Lib.hid (Below.trans RB3.out (HB4.out.mono RB3.out.size))
  have hz4 := HB4.out.size
  have Oq4_lt : Lt Aq4 w4.heap.size := Oq4.out.lt
  have Oq5_lt : Lt Aq5 w4.heap.size := Oq5.out.lt
  have Oq6_lt : Lt Aq6 w4.heap.size := Oq6.out.lt
  go_wp2_with (fail)
  refine (impl_ValidQueue_any _ _ (Oq4.out.alloc _).ts (Oq5.out.alloc _).is (Oq6.out.alloc _).is).mono ?_
  rintro e w5 ⟨rfl, hb5⟩
  have HB5 := Lib.hid hb5
  clear hb5
  have RB5 := Lib.hid (Below.trans (RB4.out.alloc (by have := RB4.out.size; first | omega | (simp; done) | (simp; omega)) _) (HB5.out.mono (by have := RB4.out.size; first | omega | (simp; done) | (simp; omega))))
  have hz5 := HB5.out.size
  simp at hz5
  go_wp2_with (fail)
  have K3 := Lib.hid ((Blk.new w4 30 #[.slice Aq4 nq4 cq4, .slice Aq5 nq5 cq5, .slice Aq6 nq6 cq6, .int .i64 x0]).on HB5.out)
  obtain ⟨k3_0, k3_1, k3_2, k3_3⟩ := K3.out.c4
  have K4 := Lib.hid (((((((Blk.new w 25 #[.slice A900 n900 c900, .slice A901 n901 c901, .slice A902 n902 c902, .int .i64 x0]).on HB1.out).on HB2.out).on HB3.out).on HB4.out).alloc _).on HB5.out)
  obtain ⟨k4_0, k4_1, k4_2, k4_3⟩ := K4.out.c4
  go_region_held3 (fun w' => w'.cell? ⟨w4.heap.size, 0, none⟩ = some (.slice Aq4 nq4 cq4) ∧ w'.cell? ⟨w4.heap.size, 1, none⟩ = some (.slice Aq5 nq5 cq5) ∧ w'.cell? ⟨w4.heap.size, 2, none⟩ = some (.slice Aq6 nq6 cq6) ∧ w'.cell? ⟨w4.heap.size, 3, none⟩ = some (.int .i64 x0) ∧ w'.cell? ⟨w.heap.size, 0, none⟩ = some (.slice A900 n900 c900) ∧ w'.cell? ⟨w.heap.size, 1, none⟩ = some (.slice A901 n901 c901) ∧ w'.cell? ⟨w.heap.size, 2, none⟩ = some (.slice A902 n902 c902) ∧ w'.cell? ⟨w.heap.size, 3, none⟩ = some (.int .i64 x0)) (first | exact S2 | exact S1 | go_keep) (first
    | (go_at_call 15; go_must (refine (laws_toQueue_any _ _ (H900.out.below RB5.out (Nat.le_refl _)).drew (H901.out.below RB5.out (Nat.le_refl _)).drew (H902.out.below RB5.out (Nat.le_refl _)).drew (by omega) (by omega) (by omega)).mono ?_; rintro e w6 ⟨Aq7, nq7, cq7, Aq8, nq8, cq8, Aq9, nq9, cq9, rfl, hq7, hq8, hq9, hD7, hD8, hD9, hb6⟩; have HB6 := Lib.hid hb6; clear hb6; have Oq7 := Lib.hid hq7; clear hq7; have Oq8 := Lib.hid hq8; clear hq8; have Oq9 := Lib.hid hq9; clear hq9; have D7 := Lib.hid hD7; clear hD7; have D8 := Lib.hid hD8; clear hD8; have D9 := Lib.hid hD9; clear hD9; have Oq7_n : nq7 ≤ 1048576 := (by have h1 := Oq7.out.len; have h2 := H900.out.len; omega); have Oq8_n : nq8 ≤ 1048576 := (by have h1 := Oq8.out.len; have h2 := H901.out.len; omega); have Oq9_n : nq9 ≤ 1048576 := (by have h1 := Oq9.out.len; have h2 := H902.out.len; omega); have RB6 := Lib.hid (Below.trans RB5.out.drew (HB6.out.mono RB5.out.size)); have hz6 := HB6.out.size; have Oq7_lt : Lt Aq7 w6.heap.size := Oq7.out.lt; have Oq8_lt : Lt Aq8 w6.heap.size := Oq8.out.lt; have Oq9_lt : Lt Aq9 w6.heap.size := Oq9.out.lt; have K5 := Lib.hid (((Blk.new w4 30 #[.slice Aq4 nq4 cq4, .slice Aq5 nq5 cq5, .slice Aq6 nq6 cq6, .int .i64 x0]).on HB5.out).drew.on HB6.out); have K6 := Lib.hid ((((((((Blk.new w 25 #[.slice A900 n900 c900, .slice A901 n901 c901, .slice A902 n902 c902, .int .i64 x0]).on HB1.out).on HB2.out).on HB3.out).on HB4.out).alloc _).on HB5.out).drew.on HB6.out); have S1 := (And.intro K5.out.c4.1 (And.intro K5.out.c4.2.1 (And.intro K5.out.c4.2.2.1 (And.intro K5.out.c4.2.2.2 (And.intro K6.out.c4.1 (And.intro K6.out.c4.2.1 (And.intro K6.out.c4.2.2.1 K6.out.c4.2.2.2)))))))))
    | (go_at_call 17; go_must (refine (laws_eqQueue_same _ _ (((Oq4.out.alloc _).below HB5.out (Nat.le_refl _)).drew.below HB6.out (Nat.le_refl _)).ts (((Oq5.out.alloc _).below HB5.out (Nat.le_refl _)).drew.below HB6.out (Nat.le_refl _)).is (((Oq6.out.alloc _).below HB5.out (Nat.le_refl _)).drew.below HB6.out (Nat.le_refl _)).is Oq7.out.ts Oq8.out.is Oq9.out.is).mono ?_; rintro e w7 ⟨rfl, hb7⟩; have HB7 := Lib.hid hb7; clear hb7; have RB7 := Lib.hid (Below.trans RB6.out (HB7.out.mono RB6.out.size)); have hz7 := HB7.out.size; have K7 := Lib.hid ((((Blk.new w4 30 #[.slice Aq4 nq4 cq4, .slice Aq5 nq5 cq5, .slice Aq6 nq6 cq6, .int .i64 x0]).on HB5.out).drew.on HB6.out).on HB7.out); have K8 := Lib.hid (((((((((Blk.new w 25 #[.slice A900 n900 c900, .slice A901 n901 c901, .slice A902 n902 c902, .int .i64 x0]).on HB1.out).on HB2.out).on HB3.out).on HB4.out).alloc _).on HB5.out).drew.on HB6.out).on HB7.out); have S2 := (And.intro K7.out.c4.1 (And.intro K7.out.c4.2.1 (And.intro K7.out.c4.2.2.1 (And.intro K7.out.c4.2.2.2 (And.intro K8.out.c4.1 (And.intro K8.out.c4.2.1 (And.intro K8.out.c4.2.2.1 K8.out.c4.2.2.2))))))))))
  clear k3_0 k3_1 k3_2 k3_3 k4_0 k4_1 k4_2 k4_3
  go_wp2_with (fail)
  go_ret
  exact ⟨rfl, RB7.out⟩
end Go.Proofs.Ytccgfeenjffnpaa
