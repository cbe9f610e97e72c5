/-
  The walk of FnValidBudget. (Its words were written by a program of my own.)
-/
import Derived.Test.YtkmjonebjobjnaaDrawB
import Derived.Test.YtkmjonebjobjnaaBudM
import Derived.Lib.QuietBelow
import Derived.Deep.DeepMust
import Derived.Test.YtkmjonebjobjnaaBudY
import Derived.Deep.RegionHeld3
import Derived.Deep.DrawnRows
namespace Go.Proofs.Ytkmjonebjobjnaa
open Go.RowKit
attribute [local go_sem ↓] Go.wp_at_zero Go.wp_at_succ
-- CALL: W s0
set_option maxHeartbeats 4000000 in
theorem walk_FnValidBudget {A : Option Addr} {n c : Nat} {zs : List Int} (w : World) (h : BS w A n c zs) :
    Calls Try.prog 3 #[.slice A n c] w fun e w' => e = .returned (.bool true) ∧ Below w.heap.size w w' := by
  have H := Lib.hid h
  clear h
  rcases Nat.lt_or_ge 1048576 n with h1 | h1
  · have h1' : (1048576 : Int) < (n : Int) := by omega
    go_enter Try.func3, Try.ntmps3
    go_wp2_with (fail)
    go_ret
    exact ⟨rfl, Below.refl _ _⟩
  have h1' : ¬ (1048576 : Int) < (n : Int) := by omega
  go_enter Try.func3, Try.ntmps3
  go_wp2_with (fail)
  refine (spec_DrawValidBudget_any w H.out h1).mono ?_
  rintro e w1 ⟨t, ks, us, A1, n1, c1, A2, n2, c2, rfl, hn1, hn2, hI1, hI2, hb⟩
  have B := Lib.hid hb
  have I1 := Lib.hid hI1
  have I2 := Lib.hid hI2
  clear hb hI1 hI2
  replace I1 := Lib.hid (I1.out.alloc (.cells #[.int .i64 t, .slice A1 n1 c1, .slice A2 n2 c2] 25))
  replace I2 := Lib.hid (I2.out.alloc (.cells #[.int .i64 t, .slice A1 n1 c1, .slice A2 n2 c2] 25))
  replace B := Lib.hid (B.out.alloc B.out.size (.cells #[.int .i64 t, .slice A1 n1 c1, .slice A2 n2 c2] 25))
  have Q := Lib.hid (Blk.new w1 25 #[.int .i64 t, .slice A1 n1 c1, .slice A2 n2 c2])
  go_wp2_with (fail)
  refine (impl_ValidBudget_any t _ I1.out I2.out).mono ?_
  rintro e w2 ⟨rfl, hb⟩
  replace I1 := Lib.hid (I1.out.below hb (Nat.le_refl _))
  replace I2 := Lib.hid (I2.out.below hb (Nat.le_refl _))
  replace Q := Lib.hid (Q.out.on hb)
  replace B := Lib.hid (B.out.trans (hb.mono B.out.size))
  clear hb
  rcases hv : validB t ks us with _ | _
  · skip
    obtain ⟨q0, q1, q2⟩ := Q.out.c3
    have ql := Q.out.lt
    go_wp2_with (fail)
    refine (call_b (spec_ValidBudget_any t _ I1.out I2.out) hv).mono ?_
    clear q0 q1 q2 ql
    rintro e w3 ⟨rfl, hb⟩
    replace I1 := Lib.hid (I1.out.below hb (Nat.le_refl _))
    replace I2 := Lib.hid (I2.out.below hb (Nat.le_refl _))
    replace Q := Lib.hid (Q.out.on hb)
    replace B := Lib.hid (B.out.trans (hb.mono B.out.size))
    clear hb
    obtain ⟨q0, q1, q2⟩ := Q.out.c3
    have ql := Q.out.lt
    go_wp2_with (fail)
    refine (call_b (spec_ValidBudget_any t _ I1.out I2.out) hv).mono ?_
    clear q0 q1 q2 ql
    rintro e w4 ⟨rfl, hb⟩
    replace I1 := Lib.hid (I1.out.below hb (Nat.le_refl _))
    replace I2 := Lib.hid (I2.out.below hb (Nat.le_refl _))
    replace Q := Lib.hid (Q.out.on hb)
    replace B := Lib.hid (B.out.trans (hb.mono B.out.size))
    clear hb
    go_wp2_with (fail)
    go_ret
    exact ⟨ret_bool (rfl), B.out⟩
  obtain ⟨q0, q1, q2⟩ := Q.out.c3
  have ql := Q.out.lt
  go_wp2_with (fail)
  refine (call_b (spec_ValidBudget_any t _ I1.out I2.out) hv).mono ?_
  clear q0 q1 q2 ql
  rintro e w3 ⟨rfl, hb⟩
  replace I1 := Lib.hid (I1.out.below hb (Nat.le_refl _))
  replace I2 := Lib.hid (I2.out.below hb (Nat.le_refl _))
  replace Q := Lib.hid (Q.out.on hb)
  replace B := Lib.hid (B.out.trans (hb.mono B.out.size))
  clear hb
  obtain ⟨m1, m2, m3, m4⟩ := unused_ok hv
  obtain ⟨U, hU⟩ : ∃ U, usedV t ks us = U := ⟨_, rfl⟩
  rw [hU] at m2 m3 m4
  have HU := Lib.hid hU
  have M1 := Lib.hid m1
  have hd : decide (U ≤ t) = true := decide_eq_true m2
  clear hv hU m1
  obtain ⟨q0, q1, q2⟩ := Q.out.c3
  go_wp2_with (fail)
  go_region_held3 (fun w' => w'.cell? ⟨w1.heap.size, 0, none⟩ = some (.int .i64 t) ∧ w'.cell? ⟨w1.heap.size, 1, none⟩ = some (.slice A1 n1 c1) ∧ w'.cell? ⟨w1.heap.size, 2, none⟩ = some (.slice A2 n2 c2)) (first | with_reducible exact S5 | with_reducible exact S4 | go_keep | (exact And.intro (cell_alloc (w := w3.drew) q0 _) (And.intro (cell_alloc (w := w3.drew) q1 _) (cell_alloc (w := w3.drew) q2 _))))
    (first
     | (go_at_call 15; go_must (refine (call_b (impl_ValidBudget_any t _ (I1.out.drew.alloc _) (OW.lit w3.drew 3 0 [0, 0, 0] (Nat.zero_le _) (by decide)).is) M1.out).mono ?_; rintro e w4 ⟨rfl, hb4⟩; have B4 := Lib.hid (Below.trans (((Below.refl w3.heap.size w3).drew).alloc (Nat.le_refl _) _) (hb4.mono (by show w3.heap.size ≤ (w3.alloc _).heap.size; simp))); have S4 := (And.intro (Q.out.on B4.out).c3.1 (And.intro (Q.out.on B4.out).c3.2.1 (Q.out.on B4.out).c3.2.2)); clear hb4))
     | (go_at_call 17; go_must (refine (call_int (impl_UsedAll_any t _ (I1.out.below B4.out (Nat.le_refl _)) (I2.out.below B4.out (Nat.le_refl _))) HU.out).mono ?_; rintro e w5 ⟨rfl, hb5⟩; have B5 := Lib.hid (B4.out.trans (hb5.mono B4.out.size)); have S5 := (And.intro (Q.out.on B5.out).c3.1 (And.intro (Q.out.on B5.out).c3.2.1 (Q.out.on B5.out).c3.2.2)); clear hb5)))
  have B := Lib.hid (B.out.trans (B5.out.mono B.out.size))
  go_wp2_with (fail)
  go_ret
  exact ⟨ret_bool (by first | rfl | (simp; done) | (simp; omega) | omega), B.out⟩
end Go.Proofs.Ytkmjonebjobjnaa
