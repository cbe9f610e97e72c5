/-
  The walk of FnLoadOf. (Its words were written by a program of my own.)
-/
import Derived.Test.YtcbphifadokfeaaDrawB
import Derived.Test.YtcbphifadokfeaaLo
import Derived.Deep.DeepMust
namespace Go.Proofs.Ytcbphifadokfeaa
open Go.RowKit
attribute [local go_sem ↓] Go.wp_at_zero Go.wp_at_succ
-- CALL: W s0
set_option maxHeartbeats 4000000 in
theorem walk_FnLoadOf {A : Option Addr} {n c : Nat} {zs : List Int} (w : World) (h : BS w A n c zs) :
    Calls Try.prog 6 #[.slice A n c] w fun e w' => e = .returned (.bool true) ∧ Below w.heap.size w w' := by
  have H := Lib.hid h
  clear h
  rcases Nat.lt_or_ge 1048576 n with h1 | h1
  · have h1' : (1048576 : Int) < (n : Int) := by omega
    go_enter Try.func6, Try.ntmps6
    go_wp2_with (fail)
    go_ret
    exact ⟨rfl, Below.refl _ _⟩
  have h1' : ¬ (1048576 : Int) < (n : Int) := by omega
  go_enter Try.func6, Try.ntmps6
  go_wp2_with (fail)
  refine (spec_DrawLoadOf_any w H.out h1).mono ?_
  rintro e w1 ⟨t, ks, us, A1, n1, c1, A2, n2, c2, rfl, hn1, hn2, hI1, hI2, hb⟩
  have B := Lib.hid hb
  have I1 := Lib.hid hI1
  have I2 := Lib.hid hI2
  clear hb hI1 hI2
  replace I1 := Lib.hid (I1.out.alloc (.cells #[.int .i64 t, .slice A1 n1 c1, .slice A2 n2 c2] 33))
  replace I2 := Lib.hid (I2.out.alloc (.cells #[.int .i64 t, .slice A1 n1 c1, .slice A2 n2 c2] 33))
  replace B := Lib.hid (B.out.alloc B.out.size (.cells #[.int .i64 t, .slice A1 n1 c1, .slice A2 n2 c2] 33))
  have Q := Lib.hid (Blk.new w1 33 #[.int .i64 t, .slice A1 n1 c1, .slice A2 n2 c2])
  rcases hv : validB t ks us with _ | _
  · skip
    have HL := Lib.hid (loV_f hv)
    clear hv
    go_wp2_with (fail)
    refine (call_int (impl_LoadOf_any t _ I1.out I2.out) HL.out).mono ?_
    rintro e w2 ⟨rfl, hb⟩
    replace I1 := Lib.hid (I1.out.below hb (Nat.le_refl _))
    replace I2 := Lib.hid (I2.out.below hb (Nat.le_refl _))
    replace Q := Lib.hid (Q.out.on hb)
    replace B := Lib.hid (B.out.trans (hb.mono B.out.size))
    clear hb
    obtain ⟨q0, q1, q2⟩ := Q.out.c3
    have ql := Q.out.lt
    go_wp2_with (fail)
    refine (call_int (spec_LoadOf_any t _ I1.out I2.out) HL.out).mono ?_
    clear q0 q1 q2 ql
    rintro e w3 ⟨rfl, hb⟩
    replace I1 := Lib.hid (I1.out.below hb (Nat.le_refl _))
    replace I2 := Lib.hid (I2.out.below hb (Nat.le_refl _))
    replace Q := Lib.hid (Q.out.on hb)
    replace B := Lib.hid (B.out.trans (hb.mono B.out.size))
    clear hb
    obtain ⟨q0, q1, q2⟩ := Q.out.c3
    have ql := Q.out.lt
    go_wp2_with (fail)
    refine (call_int (spec_LoadOf_any t _ I1.out I2.out) HL.out).mono ?_
    clear q0 q1 q2 ql
    rintro e w4 ⟨rfl, hb⟩
    replace I1 := Lib.hid (I1.out.below hb (Nat.le_refl _))
    replace I2 := Lib.hid (I2.out.below hb (Nat.le_refl _))
    replace Q := Lib.hid (Q.out.on hb)
    replace B := Lib.hid (B.out.trans (hb.mono B.out.size))
    clear hb
    go_wp2_with (fail)
    go_ret
    exact ⟨ret_bool (by simp), B.out⟩
  obtain ⟨m1, m2, m3, _⟩ := used_room hv
  obtain ⟨U, hU⟩ : ∃ U, us.sum = U := ⟨_, rfl⟩
  obtain ⟨v, hl⟩ : ∃ v, loV t ks us = v := ⟨_, rfl⟩
  have hb0 : 0 ≤ v ∧ v ≤ 100 ∧ (v = 0 ↔ U = 0) ∧ (U < t ∨ t = 0 ∨ v = 100) := by
    by_cases h0 : t = 0
    · subst h0
      rw [loV_0 hv] at hl
      omega
    · have h1 := lo_bd (t := t) m2 m1 (by omega)
      rw [loV_t hv h0] at hl
      rw [hl, hU] at h1
      omega
  rw [hU] at m1 m2 m3
  have HU : Hid (usedV t ks us = U) := Lib.hid (by simp [usedV, hv, hU])
  have HL := Lib.hid hl
  clear hv hU hl
  obtain ⟨v0, v1, v2, v3⟩ := hb0
  have v0' : ¬ v < 0 := by omega
  have v1' : decide (v ≤ 100) = true := by simp; omega
  have heq : (v == 0) = (U == 0) := by rw [Bool.eq_iff_iff]; simpa using v2
  have HQ := Lib.hid heq
  have H3 := Lib.hid v3
  clear v2 v3 heq
  go_wp2_with (fail)
  refine (call_int (impl_LoadOf_any t _ I1.out I2.out) HL.out).mono ?_
  rintro e w2 ⟨rfl, hb⟩
  replace I1 := Lib.hid (I1.out.below hb (Nat.le_refl _))
  replace I2 := Lib.hid (I2.out.below hb (Nat.le_refl _))
  replace Q := Lib.hid (Q.out.on hb)
  replace B := Lib.hid (B.out.trans (hb.mono B.out.size))
  clear hb
  obtain ⟨q0, q1, q2⟩ := Q.out.c3
  have ql := Q.out.lt
  go_wp2_with (fail)
  refine (call_int (spec_LoadOf_any t _ I1.out I2.out) HL.out).mono ?_
  clear q0 q1 q2 ql
  rintro e w3 ⟨rfl, hb⟩
  replace I1 := Lib.hid (I1.out.below hb (Nat.le_refl _))
  replace I2 := Lib.hid (I2.out.below hb (Nat.le_refl _))
  replace Q := Lib.hid (Q.out.on hb)
  replace B := Lib.hid (B.out.trans (hb.mono B.out.size))
  clear hb
  obtain ⟨q0, q1, q2⟩ := Q.out.c3
  have ql := Q.out.lt
  go_wp2_with (fail)
  refine (call_int (impl_UsedAll_any t _ I1.out I2.out) HU.out).mono ?_
  clear q0 q1 q2 ql
  rintro e w4 ⟨rfl, hb⟩
  replace I1 := Lib.hid (I1.out.below hb (Nat.le_refl _))
  replace I2 := Lib.hid (I2.out.below hb (Nat.le_refl _))
  replace Q := Lib.hid (Q.out.on hb)
  replace B := Lib.hid (B.out.trans (hb.mono B.out.size))
  clear hb
  obtain ⟨q0, q1, q2⟩ := Q.out.c3
  obtain ⟨z, hz⟩ : ∃ z, (U == 0) = z := ⟨_, rfl⟩
  have hz2 : (v == 0) = z := by rw [HQ.out, hz]
  rcases z with _ | _
  all_goals (
    by_cases hlt : U < t
    · go_wp2_with (fail)
      go_ret
      exact ⟨ret_bool (by first | rfl | (simp; done) | (simp; omega)), B.out⟩
    · have hlt' : decide (U < t) = false := by simp; omega
      by_cases h0 : t = 0
      · have h0' : (t == 0) = true := by simp [h0]
        clear h0
        go_wp2_with (fail)
        go_ret
        exact ⟨ret_bool (by first | rfl | (simp; done) | (simp; omega)), B.out⟩
      · have h0' : (t == 0) = false := by simp [h0]
        have hv : (v == 100) = true := by have := H3.out; simp; omega
        clear h0
        go_wp2_with (fail)
        go_ret
        exact ⟨ret_bool (by first | rfl | (simp; done) | (simp; omega)), B.out⟩)
end Go.Proofs.Ytcbphifadokfeaa
