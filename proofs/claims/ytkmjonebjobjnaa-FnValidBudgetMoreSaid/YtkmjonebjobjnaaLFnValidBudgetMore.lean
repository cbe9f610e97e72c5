/-
  The walk of FnValidBudgetMore. (Its words were written by a program of my own.)
-/
import Derived.Test.YtkmjonebjobjnaaDrawB
import Derived.Test.YtkmjonebjobjnaaBudM
import Derived.Lib.QuietBelow
import Derived.Deep.DeepMust
import Derived.Test.YtkmjonebjobjnaaSumL
namespace Go.Proofs.Ytkmjonebjobjnaa
open Go.RowKit
attribute [local go_sem ↓] Go.wp_at_zero Go.wp_at_succ
-- CALL: W s0
set_option maxHeartbeats 4000000 in
theorem walk_FnValidBudgetMore {A : Option Addr} {n c : Nat} {zs : List Int} (w : World) (h : BS w A n c zs) :
    Calls Try.prog 10 #[.slice A n c] w fun e w' => e = .returned (.bool true) ∧ Below w.heap.size w w' := by
  have H := Lib.hid h
  clear h
  rcases Nat.lt_or_ge 1048576 n with h1 | h1
  · have h1' : (1048576 : Int) < (n : Int) := by omega
    go_enter Try.func10, Try.ntmps10
    go_wp2_with (fail)
    go_ret
    exact ⟨rfl, Below.refl _ _⟩
  have h1' : ¬ (1048576 : Int) < (n : Int) := by omega
  go_enter Try.func10, Try.ntmps10
  go_wp2_with (fail)
  refine (spec_DrawValidBudget_any w H.out h1).mono ?_
  rintro e w1 ⟨t, ks, us, A1, n1, c1, A2, n2, c2, rfl, hn1, hn2, hI1, hI2, hb⟩
  have B := Lib.hid hb
  have I1 := Lib.hid hI1
  have I2 := Lib.hid hI2
  clear hb hI1 hI2
  replace I1 := Lib.hid (I1.out.alloc (.cells #[.int .i64 t, .slice A1 n1 c1, .slice A2 n2 c2] 25))
  replace I2 := Lib.hid (I2.out.alloc (.cells #[.int .i64 t, .slice A1 n1 c1, .slice A2 n2 c2] 25))
  replace B := Lib.hid (B.out.alloc B.out.size (.cells #[.int .i64 t, .slice A1 n1 c1, .slice A2 n2 c2] 25))
  have Q := Lib.hid (Blk.new w1 25 #[.int .i64 t, .slice A1 n1 c1, .slice A2 n2 c2])
  go_wp2_with (fail)
  refine (impl_ValidBudget_any t _ I1.out I2.out).mono ?_
  rintro e w2 ⟨rfl, hb⟩
  replace I1 := Lib.hid (I1.out.below hb (Nat.le_refl _))
  replace I2 := Lib.hid (I2.out.below hb (Nat.le_refl _))
  replace Q := Lib.hid (Q.out.on hb)
  replace B := Lib.hid (B.out.trans (hb.mono B.out.size))
  clear hb
  rcases hv : validB t ks us with _ | _
  · skip
    obtain ⟨q0, q1, q2⟩ := Q.out.c3
    have ql := Q.out.lt
    go_wp2_with (fail)
    refine (call_b (spec_ValidBudget_any t _ I1.out I2.out) hv).mono ?_
    clear q0 q1 q2 ql
    rintro e w3 ⟨rfl, hb⟩
    replace I1 := Lib.hid (I1.out.below hb (Nat.le_refl _))
    replace I2 := Lib.hid (I2.out.below hb (Nat.le_refl _))
    replace Q := Lib.hid (Q.out.on hb)
    replace B := Lib.hid (B.out.trans (hb.mono B.out.size))
    clear hb
    obtain ⟨q0, q1, q2⟩ := Q.out.c3
    have ql := Q.out.lt
    go_wp2_with (fail)
    refine (call_b (spec_ValidBudget_any t _ I1.out I2.out) hv).mono ?_
    clear q0 q1 q2 ql
    rintro e w4 ⟨rfl, hb⟩
    replace I1 := Lib.hid (I1.out.below hb (Nat.le_refl _))
    replace I2 := Lib.hid (I2.out.below hb (Nat.le_refl _))
    replace Q := Lib.hid (Q.out.on hb)
    replace B := Lib.hid (B.out.trans (hb.mono B.out.size))
    clear hb
    go_wp2_with (fail)
    go_ret
    exact ⟨ret_bool (rfl), B.out⟩
  obtain ⟨q0, q1, q2⟩ := Q.out.c3
  have ql := Q.out.lt
  go_wp2_with (fail)
  refine (call_b (spec_ValidBudget_any t _ I1.out I2.out) hv).mono ?_
  clear q0 q1 q2 ql
  rintro e w3 ⟨rfl, hb⟩
  replace I1 := Lib.hid (I1.out.below hb (Nat.le_refl _))
  replace I2 := Lib.hid (I2.out.below hb (Nat.le_refl _))
  replace Q := Lib.hid (Q.out.on hb)
  replace B := Lib.hid (B.out.trans (hb.mono B.out.size))
  clear hb
  obtain ⟨m1, m2⟩ : validB 200 ks us = true ∧ ks.sum ≤ t := by
    obtain ⟨a, b, c, x, y, z, rfl, rfl⟩ := valid3 hv
    have hh := valid3_iff.1 hv
    rw [valid3_iff]
    simp
    omega
  have hk := (validB_iff.1 hv).2.1
  have hkr := (cnt_iff.1 hk).2
  have hn1 : n1 ≤ 1000000 := by omega
  obtain ⟨S, hS⟩ : ∃ S, ks.sum = S := ⟨_, rfl⟩
  rw [hS] at m2
  have VV := Lib.hid (fun (d : Nat) (os : Array Obj) => call_b (impl_ValidBudget_any 200 (Go.Sort.grow (redrawn w3 d) os) (I1.out.regrown d os) (I2.out.regrown d os)) m1)
  have VS := Lib.hid (fun (d : Nat) (os : Array Obj) => call_int (laws_sum_any (Go.Sort.grow (redrawn w3 d) os) (I1.out.regrown d os) (allR_wide hkr (by omega) (by omega)) hn1) hS)
  clear hv hk hkr m1 hS
  obtain ⟨q0, q1, q2⟩ := Q.out.c3
  have ql := Q.out.lt
  have qq0 := fun d os => cell_regrown q0 d os
  have qq1 := fun d os => cell_regrown q1 d os
  have qq2 := fun d os => cell_regrown q2 d os
  go_wp2_with (fail)
  refine wp_region_quiet_below (by kernel_rfl) (by kernel_rfl) ?_
  repeat (first | go_big_quiet_step ((first | (go_at_call 15; with_reducible exact Calls.regrown_of (VV.out _ _)) | (go_at_call 30; with_reducible exact regrown_same (VS.out _ _)))) | quiet_step ((first | (go_at_call 15; with_reducible exact Calls.regrown_of (VV.out _ _)) | (go_at_call 30; with_reducible exact regrown_same (VS.out _ _)))))
  refine wpQuiet_nil ?_
  intro w4 hw'
  have hb : Below w3.heap.size w3 w4 := by obtain ⟨p, rfl⟩ := hw'; exact below_regrown _ _ _
  replace I1 := Lib.hid (I1.out.below hb (Nat.le_refl _))
  replace I2 := Lib.hid (I2.out.below hb (Nat.le_refl _))
  replace Q := Lib.hid (Q.out.on hb)
  replace B := Lib.hid (B.out.trans (hb.mono B.out.size))
  clear hw' hb qq0 qq1 qq2 q0 q1 q2 ql
  go_wp2_with (fail)
  go_ret
  exact ⟨ret_bool (by simp [m2]), B.out⟩
end Go.Proofs.Ytkmjonebjobjnaa
