/-
  The law FnExactLoadOf: its walk. (Written by a program of my own off the law's operations.)
-/
/-
-- CALL: i0 W s0 s1
-/
import Derived.Test.YtcbphifadokfeaaBudW
import Derived.Test.YtcbphifadokfeaaLo
import Derived.Deep.RegionHeld3
import Derived.Deep.DrawnRows
import Derived.Deep.DeepMust
import Derived.Deep.DeepCutAuto
namespace Go.Proofs.Ytcbphifadokfeaa
open Go.RowKit
attribute [local go_sem ↓] Go.wp_at_zero Go.wp_at_succ
set_option maxRecDepth 100000 in
set_option maxHeartbeats 8000000 in
theorem walk_FnExactLoadOf {A900 : Option Addr} {n900 c900 : Nat} {xs900 : List Int} {A901 : Option Addr} {n901 c901 : Nat} {xs901 : List Int} (x0 : Int) (w : World) (h900 : IS w A900 n900 c900 xs900) (h901 : IS w A901 n901 c901 xs901) :
    Calls Try.prog 4 #[.agg #[.int .i64 x0, .slice A900 n900 c900, .slice A901 n901 c901]] w fun e w' => e = .returned (.bool true) ∧ Below w.heap.size w w' := by
  have hcap900 := h900.cap
  have H900 := Lib.hid h900
  clear h900
  have hcap901 := h901.cap
  have H901 := Lib.hid h901
  clear h901
  rcases Int.lt_or_le (1048576 : Int) ((n900 + n901 : Nat) : Int) with hs1 | hs1
  · have he1 := Lib.hid (szL_lo hs1)
    have RB0 : Hid (Below w.heap.size w w) := Lib.hid (Below.refl _ _)
    go_enter Try.func4, Try.ntmps4
    go_wp2_with (fail)
    refine (laws_szBudget_any _ _ _ hcap900 hcap901 (by omega) (by omega)).mono ?_
    rintro e w1 ⟨rfl, hb1⟩
    have HB1 := Lib.hid hb1
    clear hb1
    rw [he1.out]
    have RB1 := Lib.hid (Below.trans (RB0.out.alloc (by have := RB0.out.size; first | omega | (simp; done) | (simp; omega)) _) (HB1.out.mono (by have := RB0.out.size; first | omega | (simp; done) | (simp; omega))))
    have hz1 := HB1.out.size
    simp at hz1
    go_wp2_with (fail)
    go_ret
    exact ⟨rfl, RB1.out⟩
  have he1 := Lib.hid (szL_hi hs1)
  have hx1 : 0 ≤ (1048576 : Int) - ((n900 + n901 : Nat) : Int) := by omega
  have RB0 : Hid (Below w.heap.size w w) := Lib.hid (Below.refl _ _)
  go_enter Try.func4, Try.ntmps4
  go_wp2_with (fail)
  refine (laws_szBudget_any _ _ _ hcap900 hcap901 (by omega) (by omega)).mono ?_
  rintro e w1 ⟨rfl, hb1⟩
  have HB1 := Lib.hid hb1
  clear hb1
  rw [he1.out]
  have RB1 := Lib.hid (Below.trans (RB0.out.alloc (by have := RB0.out.size; first | omega | (simp; done) | (simp; omega)) _) (HB1.out.mono (by have := RB0.out.size; first | omega | (simp; done) | (simp; omega))))
  have hz1 := HB1.out.size
  simp at hz1
  have K1 := Lib.hid ((Blk.new w 30 #[.int .i64 x0, .slice A900 n900 c900, .slice A901 n901 c901]).on HB1.out)
  obtain ⟨k1_0, k1_1, k1_2⟩ := K1.out.c3
  have k1_lt := K1.out.lt
  go_wp2_with (fail)
  refine (laws_toBudget_any _ _ (H900.out.below RB1.out (Nat.le_refl _)) (H901.out.below RB1.out (Nat.le_refl _)) (by omega) (by omega)).mono ?_
  clear k1_0 k1_1 k1_2 k1_lt
  rintro e w2 ⟨Aq1, nq1, cq1, Aq2, nq2, cq2, rfl, hq1, hq2, hD1, hb2⟩
  have HB2 := Lib.hid hb2
  clear hb2
  have Oq1 := Lib.hid hq1
  clear hq1
  have Oq2 := Lib.hid hq2
  clear hq2
  have D1 := Lib.hid hD1
  clear hD1
  have Oq1_n : nq1 ≤ 1048576 := (by have h1 := Oq1.out.len; have h2 := H900.out.len; omega)
  have Oq2_n : nq2 ≤ 1048576 := (by have h1 := Oq2.out.len; have h2 := H901.out.len; omega)
  have RB2 := Lib.hid (Below.trans RB1.out (HB2.out.mono RB1.out.size))
  have hz2 := HB2.out.size
  have Oq1_lt : Lt Aq1 w2.heap.size := Oq1.out.lt
  have Oq2_lt : Lt Aq2 w2.heap.size := Oq2.out.lt
  go_wp2_with (fail)
  refine (spec_LoadOf_any _ _ Oq1.out.is Oq2.out.is).mono ?_
  rintro e w3 ⟨rfl, hb3⟩
  have HB3 := Lib.hid hb3
  clear hb3
  have RB3 := Lib.hid (Below.trans RB2.out (HB3.out.mono RB2.out.size))
  have hz3 := HB3.out.size
  have K2 := Lib.hid ((((Blk.new w 30 #[.int .i64 x0, .slice A900 n900 c900, .slice A901 n901 c901]).on HB1.out).on HB2.out).on HB3.out)
  obtain ⟨k2_0, k2_1, k2_2⟩ := K2.out.c3
  have k2_lt := K2.out.lt
  go_wp2_with (fail)
  refine (laws_toBudget_any _ _ (H900.out.below RB3.out (Nat.le_refl _)) (H901.out.below RB3.out (Nat.le_refl _)) (by omega) (by omega)).mono ?_
  clear k2_0 k2_1 k2_2 k2_lt
  rintro e w4 ⟨Aq3, nq3, cq3, Aq4, nq4, cq4, rfl, hq3, hq4, hD2, hb4⟩
  have HB4 := Lib.hid hb4
  clear hb4
  have Oq3 := Lib.hid hq3
  clear hq3
  have Oq4 := Lib.hid hq4
  clear hq4
  have D2 := Lib.hid hD2
  clear hD2
  have Oq3_n : nq3 ≤ 1048576 := (by have h1 := Oq3.out.len; have h2 := H900.out.len; omega)
  have Oq4_n : nq4 ≤ 1048576 := (by have h1 := Oq4.out.len; have h2 := H901.out.len; omega)
  have RB4 := Lib.hid (Below.trans RB3.out (HB4.out.mono RB3.out.size))
  have hz4 := HB4.out.size
  have Oq3_lt : Lt Aq3 w4.heap.size := Oq3.out.lt
  have Oq4_lt : Lt Aq4 w4.heap.size := Oq4.out.lt
  go_wp2_with (fail)
  refine (impl_LoadOf_any _ _ (Oq3.out.alloc _).is (Oq4.out.alloc _).is).mono ?_
  rintro e w5 ⟨rfl, hb5⟩
  have HB5 := Lib.hid hb5
  clear hb5
  have RB5 := Lib.hid (Below.trans (RB4.out.alloc (by have := RB4.out.size; first | omega | (simp; done) | (simp; omega)) _) (HB5.out.mono (by have := RB4.out.size; first | omega | (simp; done) | (simp; omega))))
  have hz5 := HB5.out.size
  simp at hz5
  go_wp2_with (fail)
  have K3 := Lib.hid ((Blk.new w4 33 #[.int .i64 x0, .slice Aq3 nq3 cq3, .slice Aq4 nq4 cq4]).on HB5.out)
  obtain ⟨k3_0, k3_1, k3_2⟩ := K3.out.c3
  have K4 := Lib.hid (((((((Blk.new w 30 #[.int .i64 x0, .slice A900 n900 c900, .slice A901 n901 c901]).on HB1.out).on HB2.out).on HB3.out).on HB4.out).alloc _).on HB5.out)
  obtain ⟨k4_0, k4_1, k4_2⟩ := K4.out.c3
  go_region_held3 (fun w' => w'.cell? ⟨w4.heap.size, 0, none⟩ = some (.int .i64 x0) ∧ w'.cell? ⟨w4.heap.size, 1, none⟩ = some (.slice Aq3 nq3 cq3) ∧ w'.cell? ⟨w4.heap.size, 2, none⟩ = some (.slice Aq4 nq4 cq4) ∧ w'.cell? ⟨w.heap.size, 0, none⟩ = some (.int .i64 x0) ∧ w'.cell? ⟨w.heap.size, 1, none⟩ = some (.slice A900 n900 c900) ∧ w'.cell? ⟨w.heap.size, 2, none⟩ = some (.slice A901 n901 c901)) (first | exact S2 | exact S1 | go_keep) (first
    | (go_at_call 13; go_must (refine (laws_toBudget_any _ _ (H900.out.below RB5.out (Nat.le_refl _)).drew (H901.out.below RB5.out (Nat.le_refl _)).drew (by omega) (by omega)).mono ?_; rintro e w6 ⟨Aq5, nq5, cq5, Aq6, nq6, cq6, rfl, hq5, hq6, hD3, hb6⟩; have HB6 := Lib.hid hb6; clear hb6; have Oq5 := Lib.hid hq5; clear hq5; have Oq6 := Lib.hid hq6; clear hq6; have D3 := Lib.hid hD3; clear hD3; have Oq5_n : nq5 ≤ 1048576 := (by have h1 := Oq5.out.len; have h2 := H900.out.len; omega); have Oq6_n : nq6 ≤ 1048576 := (by have h1 := Oq6.out.len; have h2 := H901.out.len; omega); have RB6 := Lib.hid (Below.trans RB5.out.drew (HB6.out.mono RB5.out.size)); have hz6 := HB6.out.size; have Oq5_lt : Lt Aq5 w6.heap.size := Oq5.out.lt; have Oq6_lt : Lt Aq6 w6.heap.size := Oq6.out.lt; have K5 := Lib.hid (((Blk.new w4 33 #[.int .i64 x0, .slice Aq3 nq3 cq3, .slice Aq4 nq4 cq4]).on HB5.out).drew.on HB6.out); have K6 := Lib.hid ((((((((Blk.new w 30 #[.int .i64 x0, .slice A900 n900 c900, .slice A901 n901 c901]).on HB1.out).on HB2.out).on HB3.out).on HB4.out).alloc _).on HB5.out).drew.on HB6.out); have S1 := (And.intro K5.out.c3.1 (And.intro K5.out.c3.2.1 (And.intro K5.out.c3.2.2 (And.intro K6.out.c3.1 (And.intro K6.out.c3.2.1 K6.out.c3.2.2)))))))
    | (go_at_call 15; go_must (refine (laws_eqBudget_same _ _ (((Oq3.out.alloc _).below HB5.out (Nat.le_refl _)).drew.below HB6.out (Nat.le_refl _)).is (((Oq4.out.alloc _).below HB5.out (Nat.le_refl _)).drew.below HB6.out (Nat.le_refl _)).is Oq5.out.is Oq6.out.is).mono ?_; rintro e w7 ⟨rfl, hb7⟩; have HB7 := Lib.hid hb7; clear hb7; have RB7 := Lib.hid (Below.trans RB6.out (HB7.out.mono RB6.out.size)); have hz7 := HB7.out.size; have K7 := Lib.hid ((((Blk.new w4 33 #[.int .i64 x0, .slice Aq3 nq3 cq3, .slice Aq4 nq4 cq4]).on HB5.out).drew.on HB6.out).on HB7.out); have K8 := Lib.hid (((((((((Blk.new w 30 #[.int .i64 x0, .slice A900 n900 c900, .slice A901 n901 c901]).on HB1.out).on HB2.out).on HB3.out).on HB4.out).alloc _).on HB5.out).drew.on HB6.out).on HB7.out); have S2 := (And.intro K7.out.c3.1 (And.intro K7.out.c3.2.1 (And.intro K7.out.c3.2.2 (And.intro K8.out.c3.1 (And.intro K8.out.c3.2.1 K8.out.c3.2.2))))))))
  clear k3_0 k3_1 k3_2 k4_0 k4_1 k4_2
  go_wp2_with (fail)
  go_ret
  exact ⟨rfl, RB7.out⟩
end Go.Proofs.Ytcbphifadokfeaa
