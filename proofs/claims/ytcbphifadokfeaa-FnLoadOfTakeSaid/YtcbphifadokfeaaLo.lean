/-
  LoadOf of the program and of the model.
-/
import Derived.Test.YtcbphifadokfeaaBudV
import Derived.Test.YtcbphifadokfeaaBudY
import Derived.Deep.RegionHeld3
import Derived.Deep.DeepMust
import Derived.Deep.QuietTactic
namespace Go.Proofs.Ytcbphifadokfeaa
open Go.RowKit

/-- How much of a budget is used, in per cent. -/
def loV (t : Int) (ks us : List Int) : Int := if validB t ks us then (if t = 0 then 0 else (100 * us.sum + t - 1).tdiv t) else -1
theorem loV_f {t : Int} {ks us : List Int} (h : validB t ks us = false) : loV t ks us = -1 := by simp [loV, h]
theorem loV_0 {ks us : List Int} (h : validB 0 ks us = true) : loV 0 ks us = 0 := by simp [loV, h]
theorem loV_t {t : Int} {ks us : List Int} (h : validB t ks us = true) (h0 : t ≠ 0) : loV t ks us = (100 * us.sum + t - 1).tdiv t := by simp [loV, h, h0]
theorem lo_bd {U t : Int} (h0 : 0 ≤ U) (h1 : U ≤ t) (ht : 1 ≤ t) : 0 ≤ (100 * U + t - 1).tdiv t ∧ (100 * U + t - 1).tdiv t ≤ 100 ∧ ((100 * U + t - 1).tdiv t = 0 ↔ U = 0) ∧ (U = t → (100 * U + t - 1).tdiv t = 100) := by
  rw [Int.tdiv_eq_ediv_of_nonneg (by omega)]
  obtain ⟨q, hq⟩ : ∃ q, (100 * U + t - 1) / t = q := ⟨_, rfl⟩
  have e1 : q * t ≤ 100 * U + t - 1 := by rw [← hq]; exact Int.ediv_mul_le _ (by omega)
  have e2 : 100 * U + t - 1 < (q + 1) * t := by rw [← hq]; exact Int.lt_ediv_add_one_mul_self _ (by omega)
  have q0 : 0 ≤ q := by rw [← hq]; exact Int.ediv_nonneg (by omega) (by omega)
  rw [Int.add_mul, Int.one_mul] at e2
  rw [hq]
  have q1 : q ≤ 100 := by
    rcases Int.lt_or_le 100 q with h | h
    · have := Int.mul_le_mul_of_nonneg_right (show (101 : Int) ≤ q by omega) (show (0 : Int) ≤ t by omega)
      omega
    · exact h
  refine ⟨q0, q1, ⟨fun h => ?_, fun h => ?_⟩, fun h => ?_⟩
  · subst h; omega
  · subst h
    rcases Int.lt_or_le 0 q with h | h
    · have := Int.mul_le_mul_of_nonneg_right (show (1 : Int) ≤ q by omega) (show (0 : Int) ≤ t by omega)
      omega
    · omega
  · subst h
    rcases Int.lt_or_le q 100 with h | h
    · have := Int.mul_le_mul_of_nonneg_right (show q + 1 ≤ 100 by omega) (show (0 : Int) ≤ U by omega)
      rw [Int.add_mul, Int.one_mul] at this
      omega
    · omega
theorem lo_mono {U s t : Int} (h0 : 0 ≤ U) (hs : 0 ≤ s) (ht : 1 ≤ t) : (100 * U + t - 1).tdiv t ≤ (100 * (U + s) + t - 1).tdiv t := by
  rw [Int.tdiv_eq_ediv_of_nonneg (by omega), Int.tdiv_eq_ediv_of_nonneg (by omega)]
  exact Int.ediv_le_ediv (by omega) (by omega)
theorem loV_bd (t : Int) (ks us : List Int) : -1 ≤ loV t ks us ∧ loV t ks us ≤ 100 := by
  rcases hv : validB t ks us with _ | _
  · rw [loV_f hv]; omega
  by_cases h0 : t = 0
  · subst h0; rw [loV_0 hv]; omega
  · obtain ⟨m1, m2, m3, _⟩ := used_room hv
    have := lo_bd (t := t) m2 m1 (by omega)
    rw [loV_t hv h0]; omega
theorem impl_divideUp_any (n b : Int) (w : World) (h0 : 0 ≤ n) (h1 : n ≤ 1000000) (h2 : 1 ≤ b) (h3 : b ≤ 1000000) :
    Calls Try.prog 30 #[.int .i64 n, .int .i64 b] w fun e w' => e = .returned (.int .i64 ((n + b - 1).tdiv b)) ∧ w = w' := by
  have hb : (b == 0) = false := by simp; omega
  have hd : 0 ≤ (n + b - 1).tdiv b ∧ (n + b - 1).tdiv b ≤ n + b - 1 := by
    rw [Int.tdiv_eq_ediv_of_nonneg (by omega)]
    exact ⟨Int.ediv_nonneg (by omega) (by omega), Int.ediv_le_self b (by omega)⟩
  go_enter Try.func30, Try.ntmps30
  go_wp2_with (fail)
  go_ret
  exact ⟨rfl, rfl⟩
set_option maxHeartbeats 1600000 in
theorem impl_LoadOf_any {A A' : Option Addr} {n c n' c' : Nat} {ks us : List Int} (t : Int) (w : World) (h : IS w A n c ks) (h' : IS w A' n' c' us) :
    Calls Try.prog 14 #[.agg #[.int .i64 t, .slice A n c, .slice A' n' c']] w fun e w' => e = .returned (.int .i64 (loV t ks us)) ∧ Below w.heap.size w w' := by
  have H := Lib.hid h
  have H' := Lib.hid h'
  have B0 := Lib.hid (below_new w (.cells #[.int .i64 t, .slice A n c, .slice A' n' c'] 33))
  clear h h'
  rcases hv : validB t ks us with _ | _
  · go_enter Try.func14, Try.ntmps14
    go_wp2_with (fail)
    refine (call_b (impl_ValidBudget_any t _ (H.out.alloc _) (H'.out.alloc _)) hv).mono ?_
    rintro e w1 ⟨rfl, hb⟩
    have B1 := Lib.hid (below_then (below_new w _) hb)
    clear hb
    go_wp2_with (fail)
    go_ret
    exact ⟨ret_int (loV_f hv).symm, B1.out⟩
  have HV := Lib.hid hv
  obtain ⟨m1, m2, m3, _⟩ := used_room hv
  obtain ⟨U, hU⟩ : ∃ U, us.sum = U := ⟨_, rfl⟩
  rw [hU] at m1 m2 m3
  have HU : Hid (usedV t ks us = U) := Lib.hid (by simp [usedV, hv, hU])
  have HS := Lib.hid hU
  have ht := (validB_iff.1 hv).1
  clear hv hU
  by_cases h0 : t = 0
  · have h0' : (t == 0) = true := by simp [h0]
    have H0 := Lib.hid h0
    clear h0
    go_enter Try.func14, Try.ntmps14
    go_wp2_with (fail)
    refine (call_b (impl_ValidBudget_any t _ (H.out.alloc _) (H'.out.alloc _)) HV.out).mono ?_
    rintro e w1 ⟨rfl, hb⟩
    have B1 := Lib.hid (below_then (below_new w _) hb)
    have K := Lib.hid ((Blk.new w 33 #[.int .i64 t, .slice A n c, .slice A' n' c']).on hb)
    clear hb
    obtain ⟨k0, k1, k2⟩ := K.out.c3
    go_wp2_with (fail)
    go_ret
    exact ⟨ret_int (by simp only [loV, HV.out, if_true]; rw [if_pos H0.out]), B1.out⟩
  have h0' : (t == 0) = false := by simp [h0]
  have H0 := Lib.hid h0
  have ht1 : 1 ≤ t := by omega
  clear h0
  have hw1 : IntKind.i64.wrap (100 * U) = 100 * U := by rw [IntKind.wrap_i64]; omega
  go_enter Try.func14, Try.ntmps14
  go_wp2_with (fail)
  refine (call_b (impl_ValidBudget_any t _ (H.out.alloc _) (H'.out.alloc _)) HV.out).mono ?_
  rintro e w1 ⟨rfl, hb⟩
  have B1 := Lib.hid (below_then (below_new w _) hb)
  have K := Lib.hid ((Blk.new w 33 #[.int .i64 t, .slice A n c, .slice A' n' c']).on hb)
  have I1 := Lib.hid (H.out.below B1.out (Nat.le_refl _))
  have I1' := Lib.hid (H'.out.below B1.out (Nat.le_refl _))
  clear hb
  obtain ⟨k0, k1, k2⟩ := K.out.c3
  have kl := K.out.lt
  go_wp2_with (fail)
  go_region_held3 (fun w' => w'.cell? ⟨w.heap.size, 0, none⟩ = some (.int .i64 t) ∧ w'.cell? ⟨w.heap.size, 1, none⟩ = some (.slice A n c) ∧ w'.cell? ⟨w.heap.size, 2, none⟩ = some (.slice A' n' c'))
    (refine And.intro ?_ (And.intro ?_ ?_) <;> ((first | with_reducible refine cell_up (w := w1) ?_ k0 | with_reducible refine cell_up (w := w1) ?_ k1 | with_reducible refine cell_up (w := w1) ?_ k2); (repeat' (first | with_reducible exact HW.out | with_reducible exact Below.refl _ _ | with_reducible refine Below.drew ?_))))
    (first
     | (go_at_call 18; go_must (refine (call_int (impl_UsedAll_any t _ (by first | exact I1.out | exact I1.out.drew) (by first | exact I1'.out | exact I1'.out.drew)) HU.out).mono ?_; rintro e w6 ⟨rfl, hb⟩; have HW : Hid (Below w1.heap.size w1 w6) := Lib.hid (by first | exact hb | exact (Below.refl w1.heap.size w1).drew.trans hb); clear hb))
     | (go_at_call 30; go_must (refine (impl_divideUp_any (100 * U) t _ (by omega) (by omega) ht1 (by omega)).mono ?_; rintro e w7 ⟨rfl, rfl⟩)))
  all_goals (
    go_wp2_with (fail)
    go_ret
    exact ⟨ret_int (by rw [loV_t HV.out H0.out, HS.out]), by first | exact B1.out.trans (HW.out.mono B1.out.size) | exact (B1.out.trans (HW.out.mono B1.out.size)).drew⟩)
set_option maxHeartbeats 1600000 in
theorem spec_LoadOf_any {A A' : Option Addr} {n c n' c' : Nat} {ks us : List Int} (t : Int) (w : World) (h : IS w A n c ks) (h' : IS w A' n' c' us) :
    Calls Try.prog 12 #[.agg #[.int .i64 t, .slice A n c, .slice A' n' c']] w fun e w' => e = .returned (.int .i64 (loV t ks us)) ∧ Below w.heap.size w w' := by
  have H := Lib.hid h
  have H' := Lib.hid h'
  clear h h'
  rcases hv : validB t ks us with _ | _
  · go_enter Try.func12, Try.ntmps12
    go_wp2_with (fail)
    refine (call_b (spec_validBudget_any t _ (H.out.alloc _) (H'.out.alloc _)) hv).mono ?_
    rintro e w1 ⟨rfl, hb⟩
    have B1 := Lib.hid (below_then (below_new w _) hb)
    clear hb
    go_wp2_with (fail)
    go_ret
    exact ⟨ret_int (loV_f hv).symm, B1.out⟩
  have HV := Lib.hid hv
  obtain ⟨m1, m2, m3, _⟩ := used_room hv
  obtain ⟨U, hU⟩ : ∃ U, us.sum = U := ⟨_, rfl⟩
  rw [hU] at m1 m2 m3
  have HS := Lib.hid hU
  have ht := (validB_iff.1 hv).1
  have hu := (validB_iff.1 hv).2.2.1
  have hn : n' ≤ 1000000 := by have := (cnt_iff.1 hu).1; have := H'.out.len; omega
  have HR := Lib.hid (cnt_iff.1 hu).2
  clear hv hU hu
  by_cases h0 : t = 0
  · have h0' : (t == 0) = true := by simp [h0]
    have H0 := Lib.hid h0
    clear h0
    go_enter Try.func12, Try.ntmps12
    go_wp2_with (fail)
    refine (call_b (spec_validBudget_any t _ (H.out.alloc _) (H'.out.alloc _)) HV.out).mono ?_
    rintro e w1 ⟨rfl, hb⟩
    have B1 := Lib.hid (below_then (below_new w _) hb)
    have K := Lib.hid ((Blk.new w 33 #[.int .i64 t, .slice A n c, .slice A' n' c']).on hb)
    clear hb
    obtain ⟨k0, k1, k2⟩ := K.out.c3
    go_wp2_with (fail)
    go_ret
    exact ⟨ret_int (by simp only [loV, HV.out, if_true]; rw [if_pos H0.out]), B1.out⟩
  have h0' : (t == 0) = false := by simp [h0]
  have H0 := Lib.hid h0
  have ht1 : 1 ≤ t := by omega
  clear h0
  have hw1 : IntKind.i64.wrap (100 * U) = 100 * U := by rw [IntKind.wrap_i64]; omega
  have hw2 : IntKind.i64.wrap (100 * U + t) = 100 * U + t := by rw [IntKind.wrap_i64]; omega
  have hw3 : IntKind.i64.wrap (100 * U + t - 1) = 100 * U + t - 1 := by rw [IntKind.wrap_i64]; omega
  have hb := lo_bd m2 m1 ht1
  obtain ⟨D, hD⟩ : ∃ D, (100 * U + t - 1).tdiv t = D := ⟨_, rfl⟩
  rw [hD] at hb
  have hw4 : IntKind.i64.wrap D = D := by rw [IntKind.wrap_i64]; omega
  have HD : Hid (loV t ks us = D) := Lib.hid (by rw [loV_t HV.out H0.out, HS.out, hD])
  clear hb
  go_enter Try.func12, Try.ntmps12
  go_wp2_with (fail)
  refine (call_b (spec_validBudget_any t _ (H.out.alloc _) (H'.out.alloc _)) HV.out).mono ?_
  rintro e w1 ⟨rfl, hb⟩
  have B1 := Lib.hid (below_then (below_new w _) hb)
  have K := Lib.hid ((Blk.new w 33 #[.int .i64 t, .slice A n c, .slice A' n' c']).on hb)
  have I1' := Lib.hid (H'.out.below B1.out (Nat.le_refl _))
  clear hb
  obtain ⟨k0, k1, k2⟩ := K.out.c3
  have kl := K.out.lt
  go_wp2_with (fail)
  go_quiet ((go_at_call 27; refine (call_int (spec_sum_any _ (I1'.out.drewN _) (allR_wide HR.out (by omega) (by omega)) hn) HS.out).mono ?_; rintro e w' ⟨rfl, rfl⟩; exact ⟨rfl, _, rfl⟩))
  go_wp2_with (fail)
  go_ret
  exact ⟨ret_int (by rw [HD.out]), by first | exact B1.out | exact below_drewN B1.out _⟩
end Go.Proofs.Ytcbphifadokfeaa
