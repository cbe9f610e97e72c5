/-
  The law FnExactValidItem: its walk.
-/
/-
-- CALL: i0 i1 W s0
-/
import Derived.Test.YtgnocopknihchaaItem
import Derived.Deep.RegionHeld3
import Derived.Deep.DrawnRows
namespace Go.Proofs.Ytgnocopknihchaa
open Go.RowKit
attribute [local go_sem ↓] Go.wp_at_zero Go.wp_at_succ
set_option maxHeartbeats 1000000 in
theorem walk_FnExactValidItem {A : Option Addr} {n c : Nat} {xs : List Int} (cl ky : Int) (w : World) (h : IS w A n c xs) :
    Calls Try.prog 3 #[.agg #[.int .i64 cl, .int .i64 ky, .slice A n c]] w fun e w' => e = .returned (.bool true) ∧ Below w.heap.size w w' := by
  have hcap := h.cap
  have H := Lib.hid h
  clear h
  rcases Int.lt_or_le 1048576 (n : Int) with hn | hn
  · have he := Lib.hid (szL_lo hn)
    go_enter Try.func3, Try.ntmps3
    go_wp2_with (fail)
    refine (laws_szItem_any _ _ _ _ hcap (by omega) (by omega)).mono ?_
    rintro e w1 ⟨rfl, hb1⟩
    rw [he.out]
    go_wp2_with (fail)
    go_ret
    exact ⟨rfl, ((Below.refl _ _).alloc (Nat.le_refl _) _).trans (hb1.mono (by simp))⟩
  · have he := Lib.hid (szL_hi hn)
    have hx : 0 ≤ (1048576 : Int) - (n : Int) := by omega
    go_enter Try.func3, Try.ntmps3
    go_wp2_with (fail)
    refine (laws_szItem_any _ _ _ _ hcap (by omega) (by omega)).mono ?_
    rintro e w1 ⟨rfl, hb1⟩
    rw [he.out]
    have K1 := Lib.hid ((Blk.new w 24 #[.int .i64 cl, .int .i64 ky, .slice A n c]).on hb1)
    have B1 := Lib.hid (below_then (below_new _ _) hb1)
    clear hb1
    obtain ⟨k10, k11, k12⟩ := K1.out.c3
    go_wp2_with (fail)
    refine (laws_toItem_any _ _ _ (H.out.below B1.out (Nat.le_refl _)) (by omega)).mono ?_
    clear k10 k11 k12
    rintro e w2 ⟨A2, n2, c2, rfl, ho2, hb2⟩
    have HO2 := Lib.hid ho2
    have K2 := Lib.hid (K1.out.on hb2)
    have B2 := Lib.hid (below_then B1.out hb2)
    clear hb2 ho2
    go_wp2_with (fail)
    refine (spec_ValidItem_any _ _ _ HO2.out.is).mono ?_
    rintro e w3 ⟨rfl, hb3⟩
    have K3 := Lib.hid (K2.out.on hb3)
    have B3 := Lib.hid (below_then B2.out hb3)
    clear hb3
    obtain ⟨k10, k11, k12⟩ := K3.out.c3
    go_wp2_with (fail)
    refine (laws_toItem_any _ _ _ (H.out.below B3.out (Nat.le_refl _)) (by omega)).mono ?_
    clear k10 k11 k12
    rintro e w4 ⟨A4, n4, c4, rfl, ho4, hb4⟩
    have HO4 := Lib.hid ho4
    have K4 := Lib.hid (K3.out.on hb4)
    have B4 := Lib.hid (below_then B3.out hb4)
    clear hb4 ho4
    go_wp2_with (fail)
    refine (impl_ValidItem_any _ _ _ (HO4.out.is.alloc _)).mono ?_
    rintro e w5 ⟨rfl, hb5⟩
    have hne : (validI cl ky xs != validI cl ky xs) = false := by simp
    have K5 := Lib.hid ((K4.out.alloc _).on hb5)
    have X5 := Lib.hid ((Blk.new w4 27 #[.int .i64 cl, .int .i64 ky, .slice A4 n4 c4]).on hb5)
    have I5 := Lib.hid ((HO4.out.is.alloc _).below hb5 (Nat.le_refl _))
    have B5 := Lib.hid (below_then (below_then B4.out (below_new _ _)) hb5)
    clear hb5
    obtain ⟨k10, k11, k12⟩ := K5.out.c3
    obtain ⟨x10, x11, x12⟩ := X5.out.c3
    go_wp2_with (fail)
    clear hne
    have J5 : Hid (IS w5.drew A n c xs) := Lib.hid (H.out.below B5.out (Nat.le_refl _)).drew
    have I5' : Hid (IS w5.drew A4 n4 c4 xs) := Lib.hid I5.out.drew
    have K5' : Hid (Blk w5.drew w.heap.size 24 #[.int .i64 cl, .int .i64 ky, .slice A n c]) := Lib.hid K5.out.drew
    have X5' : Hid (Blk w5.drew w4.heap.size 27 #[.int .i64 cl, .int .i64 ky, .slice A4 n4 c4]) := Lib.hid X5.out.drew
    go_region_held3 (fun w' => w'.cell? ⟨w.heap.size, 0, none⟩ = some (.int .i64 cl) ∧ w'.cell? ⟨w.heap.size, 1, none⟩ = some (.int .i64 ky) ∧ w'.cell? ⟨w.heap.size, 2, none⟩ = some (.slice A n c) ∧ w'.cell? ⟨w4.heap.size, 0, none⟩ = some (.int .i64 cl) ∧ w'.cell? ⟨w4.heap.size, 1, none⟩ = some (.int .i64 ky) ∧ w'.cell? ⟨w4.heap.size, 2, none⟩ = some (.slice A4 n4 c4)) (first | exact S7 | exact S6 | go_keep) (first
      | (go_at_call 10; go_must (refine (laws_toItem_any _ _ _ J5.out (by omega)).mono ?_; rintro e w6 ⟨A6, n6, c6, rfl, ho6, hb6⟩; have HB6 := Lib.hid hb6; have HO6 := Lib.hid ho6; clear hb6 ho6; have K6 := K5'.out.on HB6.out; have X6 := X5'.out.on HB6.out; have S6 := and_six K6.c3 X6.c3; have HK6 := Lib.hid K6; have HX6 := Lib.hid X6; clear K6 X6))
      | (go_at_call 12; refine (laws_eqItem_any _ _ _ _ _ (I5'.out.below HB6.out (Nat.le_refl _)) HO6.out.is).mono ?_; rintro e w7 ⟨rfl, hb7⟩; rw [eqI_refl]; have HB7 := Lib.hid hb7; clear hb7; have S7 := and_six (HK6.out.on HB7.out).c3 (HX6.out.on HB7.out).c3))
    go_wp2_with (fail)
    go_ret
    exact ⟨rfl, below_then (below_then (B5.out.drew) HB6.out) HB7.out⟩
end Go.Proofs.Ytgnocopknihchaa
