/-
  The walk of FnLoadOfTake. (Its words were written by a program of my own.)
-/
import Derived.Test.YtcbphifadokfeaaDrawT
import Derived.Test.YtcbphifadokfeaaBudY
import Derived.Lib.QuietBelow
import Derived.Deep.DeepMust
import Derived.Test.YtcbphifadokfeaaLo
import Derived.Deep.RegionHeld3
namespace Go.Proofs.Ytcbphifadokfeaa
open Go.RowKit
attribute [local go_sem ↓] Go.wp_at_zero Go.wp_at_succ
-- CALL: W s0
set_option maxHeartbeats 4000000 in
theorem walk_FnLoadOfTake {A : Option Addr} {n c : Nat} {zs : List Int} (w : World) (h : BS w A n c zs) :
    Calls Try.prog 7 #[.slice A n c] w fun e w' => e = .returned (.bool true) ∧ Below w.heap.size w w' := by
  have H := Lib.hid h
  clear h
  rcases Nat.lt_or_ge 1048576 n with h1 | h1
  · have h1' : (1048576 : Int) < (n : Int) := by omega
    go_enter Try.func7, Try.ntmps7
    go_wp2_with (fail)
    go_ret
    exact ⟨rfl, Below.refl _ _⟩
  have h1' : ¬ (1048576 : Int) < (n : Int) := by omega
  go_enter Try.func7, Try.ntmps7
  go_wp2_with (fail)
  refine (spec_DrawTakeCredit_any w H.out h1).mono ?_
  rintro e w1 ⟨t, ks, us, A1, n1, c1, A2, n2, c2, cl, s, rfl, hn1, hn2, hcl0, hcl1, hs0, hs1, hI1, hI2, hb⟩
  have B := Lib.hid hb
  have I1 := Lib.hid hI1
  have I2 := Lib.hid hI2
  clear hb hI1 hI2
  replace I1 := Lib.hid (I1.out.alloc (.cells #[.int .i64 t, .slice A1 n1 c1, .slice A2 n2 c2] 33))
  replace I2 := Lib.hid (I2.out.alloc (.cells #[.int .i64 t, .slice A1 n1 c1, .slice A2 n2 c2] 33))
  replace B := Lib.hid (B.out.alloc B.out.size (.cells #[.int .i64 t, .slice A1 n1 c1, .slice A2 n2 c2] 33))
  have Q := Lib.hid (Blk.new w1 33 #[.int .i64 t, .slice A1 n1 c1, .slice A2 n2 c2])
  rcases hok : tcOK t ks us cl s with _ | _
  · skip
    go_wp2_with (fail)
    refine (impl_TakeCredit_no t cl s _ I1.out I2.out hok).mono ?_
    rintro e w2 ⟨A3, n3, c3, A4, n4, c4, rfl, ho3, ho4, hd, hb⟩
    replace I1 := Lib.hid (I1.out.below hb (Nat.le_refl _))
    replace I2 := Lib.hid (I2.out.below hb (Nat.le_refl _))
    replace Q := Lib.hid (Q.out.on hb)
    replace B := Lib.hid (B.out.trans (hb.mono B.out.size))
    have I3 := Lib.hid ho3.is
    have I4 := Lib.hid ho4.is
    clear hb
    have Qp := Q
    replace Q := Lib.hid (Q.out.alloc (.cells #[.int .i64 0, .slice A3 n3 c3, .slice A4 n4 c4] 33))
    replace I1 := Lib.hid (I1.out.alloc (.cells #[.int .i64 0, .slice A3 n3 c3, .slice A4 n4 c4] 33))
    replace I2 := Lib.hid (I2.out.alloc (.cells #[.int .i64 0, .slice A3 n3 c3, .slice A4 n4 c4] 33))
    replace I3 := Lib.hid (I3.out.alloc (.cells #[.int .i64 0, .slice A3 n3 c3, .slice A4 n4 c4] 33))
    replace I4 := Lib.hid (I4.out.alloc (.cells #[.int .i64 0, .slice A3 n3 c3, .slice A4 n4 c4] 33))
    replace B := Lib.hid (B.out.alloc B.out.size (.cells #[.int .i64 0, .slice A3 n3 c3, .slice A4 n4 c4] 33))
    have F := Lib.hid (Blk.new w2 33 #[.int .i64 0, .slice A3 n3 c3, .slice A4 n4 c4])
    obtain ⟨q0, q1, q2⟩ := Qp.out.c3
    have ql := Qp.out.lt
    go_wp2_with (fail)
    refine (spec_TakeCredit_no t cl s _ I1.out I2.out hok).mono ?_
    clear q0 q1 q2 ql
    rintro e w3 ⟨A5, n5, c5, A6, n6, c6, rfl, ho5, ho6, hd, hb⟩
    replace I1 := Lib.hid (I1.out.below hb (Nat.le_refl _))
    replace I2 := Lib.hid (I2.out.below hb (Nat.le_refl _))
    replace I3 := Lib.hid (I3.out.below hb (Nat.le_refl _))
    replace I4 := Lib.hid (I4.out.below hb (Nat.le_refl _))
    replace Q := Lib.hid (Q.out.on hb)
    replace F := Lib.hid (F.out.on hb)
    replace B := Lib.hid (B.out.trans (hb.mono B.out.size))
    have I5 := Lib.hid ho5.is
    have I6 := Lib.hid ho6.is
    clear hb
    replace Qp := Q
    replace Q := Lib.hid (Q.out.alloc (.cells #[.int .i64 0, .slice A5 n5 c5, .slice A6 n6 c6] 33))
    have Fp := F
    replace F := Lib.hid (F.out.alloc (.cells #[.int .i64 0, .slice A5 n5 c5, .slice A6 n6 c6] 33))
    replace I1 := Lib.hid (I1.out.alloc (.cells #[.int .i64 0, .slice A5 n5 c5, .slice A6 n6 c6] 33))
    replace I2 := Lib.hid (I2.out.alloc (.cells #[.int .i64 0, .slice A5 n5 c5, .slice A6 n6 c6] 33))
    replace I3 := Lib.hid (I3.out.alloc (.cells #[.int .i64 0, .slice A5 n5 c5, .slice A6 n6 c6] 33))
    replace I4 := Lib.hid (I4.out.alloc (.cells #[.int .i64 0, .slice A5 n5 c5, .slice A6 n6 c6] 33))
    replace I5 := Lib.hid (I5.out.alloc (.cells #[.int .i64 0, .slice A5 n5 c5, .slice A6 n6 c6] 33))
    replace I6 := Lib.hid (I6.out.alloc (.cells #[.int .i64 0, .slice A5 n5 c5, .slice A6 n6 c6] 33))
    replace B := Lib.hid (B.out.alloc B.out.size (.cells #[.int .i64 0, .slice A5 n5 c5, .slice A6 n6 c6] 33))
    have G := Lib.hid (Blk.new w3 33 #[.int .i64 0, .slice A5 n5 c5, .slice A6 n6 c6])
    obtain ⟨f0, f1, f2⟩ := Fp.out.c3
    have fl := Fp.out.lt
    go_wp2_with (fail)
    refine (laws_equalBudget_same 0 _ I3.out I4.out I5.out I6.out).mono ?_
    clear f0 f1 f2 fl
    rintro e w4 ⟨rfl, hb⟩
    replace I1 := Lib.hid (I1.out.below hb (Nat.le_refl _))
    replace I2 := Lib.hid (I2.out.below hb (Nat.le_refl _))
    replace I3 := Lib.hid (I3.out.below hb (Nat.le_refl _))
    replace I4 := Lib.hid (I4.out.below hb (Nat.le_refl _))
    replace I5 := Lib.hid (I5.out.below hb (Nat.le_refl _))
    replace I6 := Lib.hid (I6.out.below hb (Nat.le_refl _))
    replace Q := Lib.hid (Q.out.on hb)
    replace F := Lib.hid (F.out.on hb)
    replace G := Lib.hid (G.out.on hb)
    replace B := Lib.hid (B.out.trans (hb.mono B.out.size))
    clear hb
    obtain ⟨f0, f1, f2⟩ := F.out.c3
    have fl := F.out.lt
    obtain ⟨g0, g1, g2⟩ := G.out.c3
    have gl := G.out.lt
    go_wp2_with (fail)
    refine (laws_equalBudget_same 0 _ I3.out I4.out I5.out I6.out).mono ?_
    clear f0 f1 f2 fl g0 g1 g2 gl
    rintro e w5 ⟨rfl, hb⟩
    replace I1 := Lib.hid (I1.out.below hb (Nat.le_refl _))
    replace I2 := Lib.hid (I2.out.below hb (Nat.le_refl _))
    replace I3 := Lib.hid (I3.out.below hb (Nat.le_refl _))
    replace I4 := Lib.hid (I4.out.below hb (Nat.le_refl _))
    replace I5 := Lib.hid (I5.out.below hb (Nat.le_refl _))
    replace I6 := Lib.hid (I6.out.below hb (Nat.le_refl _))
    replace Q := Lib.hid (Q.out.on hb)
    replace F := Lib.hid (F.out.on hb)
    replace G := Lib.hid (G.out.on hb)
    replace B := Lib.hid (B.out.trans (hb.mono B.out.size))
    clear hb
    go_wp2_with (fail)
    go_ret
    exact ⟨ret_bool (by first | rfl | (simp; done) | (simp; omega) | omega), B.out⟩
  go_wp2_with (fail)
  refine (impl_TakeCredit_yes t cl s _ I1.out I2.out hok).mono ?_
  rintro e w2 ⟨A3, n3, c3, A4, n4, c4, rfl, ho3, ho4, hd, hb⟩
  replace I1 := Lib.hid (I1.out.below hb (Nat.le_refl _))
  replace I2 := Lib.hid (I2.out.below hb (Nat.le_refl _))
  replace Q := Lib.hid (Q.out.on hb)
  replace B := Lib.hid (B.out.trans (hb.mono B.out.size))
  have I3 := Lib.hid ho3.is
  have I4 := Lib.hid ho4.is
  clear hb
  have Qp := Q
  replace Q := Lib.hid (Q.out.alloc (.cells #[.int .i64 t, .slice A3 n3 c3, .slice A4 n4 c4] 33))
  replace I1 := Lib.hid (I1.out.alloc (.cells #[.int .i64 t, .slice A3 n3 c3, .slice A4 n4 c4] 33))
  replace I2 := Lib.hid (I2.out.alloc (.cells #[.int .i64 t, .slice A3 n3 c3, .slice A4 n4 c4] 33))
  replace I3 := Lib.hid (I3.out.alloc (.cells #[.int .i64 t, .slice A3 n3 c3, .slice A4 n4 c4] 33))
  replace I4 := Lib.hid (I4.out.alloc (.cells #[.int .i64 t, .slice A3 n3 c3, .slice A4 n4 c4] 33))
  replace B := Lib.hid (B.out.alloc B.out.size (.cells #[.int .i64 t, .slice A3 n3 c3, .slice A4 n4 c4] 33))
  have F := Lib.hid (Blk.new w2 33 #[.int .i64 t, .slice A3 n3 c3, .slice A4 n4 c4])
  obtain ⟨q0, q1, q2⟩ := Qp.out.c3
  have ql := Qp.out.lt
  go_wp2_with (fail)
  refine (spec_TakeCredit_yes t cl s _ I1.out I2.out hok).mono ?_
  clear q0 q1 q2 ql
  rintro e w3 ⟨A5, n5, c5, A6, n6, c6, rfl, ho5, ho6, hd, hb⟩
  replace I1 := Lib.hid (I1.out.below hb (Nat.le_refl _))
  replace I2 := Lib.hid (I2.out.below hb (Nat.le_refl _))
  replace I3 := Lib.hid (I3.out.below hb (Nat.le_refl _))
  replace I4 := Lib.hid (I4.out.below hb (Nat.le_refl _))
  replace Q := Lib.hid (Q.out.on hb)
  replace F := Lib.hid (F.out.on hb)
  replace B := Lib.hid (B.out.trans (hb.mono B.out.size))
  have I5 := Lib.hid ho5.is
  have I6 := Lib.hid ho6.is
  clear hb
  replace Qp := Q
  replace Q := Lib.hid (Q.out.alloc (.cells #[.int .i64 t, .slice A5 n5 c5, .slice A6 n6 c6] 33))
  have Fp := F
  replace F := Lib.hid (F.out.alloc (.cells #[.int .i64 t, .slice A5 n5 c5, .slice A6 n6 c6] 33))
  replace I1 := Lib.hid (I1.out.alloc (.cells #[.int .i64 t, .slice A5 n5 c5, .slice A6 n6 c6] 33))
  replace I2 := Lib.hid (I2.out.alloc (.cells #[.int .i64 t, .slice A5 n5 c5, .slice A6 n6 c6] 33))
  replace I3 := Lib.hid (I3.out.alloc (.cells #[.int .i64 t, .slice A5 n5 c5, .slice A6 n6 c6] 33))
  replace I4 := Lib.hid (I4.out.alloc (.cells #[.int .i64 t, .slice A5 n5 c5, .slice A6 n6 c6] 33))
  replace I5 := Lib.hid (I5.out.alloc (.cells #[.int .i64 t, .slice A5 n5 c5, .slice A6 n6 c6] 33))
  replace I6 := Lib.hid (I6.out.alloc (.cells #[.int .i64 t, .slice A5 n5 c5, .slice A6 n6 c6] 33))
  replace B := Lib.hid (B.out.alloc B.out.size (.cells #[.int .i64 t, .slice A5 n5 c5, .slice A6 n6 c6] 33))
  have G := Lib.hid (Blk.new w3 33 #[.int .i64 t, .slice A5 n5 c5, .slice A6 n6 c6])
  obtain ⟨f0, f1, f2⟩ := Fp.out.c3
  have fl := Fp.out.lt
  go_wp2_with (fail)
  refine (laws_equalBudget_same t _ I3.out I4.out I5.out I6.out).mono ?_
  clear f0 f1 f2 fl
  rintro e w4 ⟨rfl, hb⟩
  replace I1 := Lib.hid (I1.out.below hb (Nat.le_refl _))
  replace I2 := Lib.hid (I2.out.below hb (Nat.le_refl _))
  replace I3 := Lib.hid (I3.out.below hb (Nat.le_refl _))
  replace I4 := Lib.hid (I4.out.below hb (Nat.le_refl _))
  replace I5 := Lib.hid (I5.out.below hb (Nat.le_refl _))
  replace I6 := Lib.hid (I6.out.below hb (Nat.le_refl _))
  replace Q := Lib.hid (Q.out.on hb)
  replace F := Lib.hid (F.out.on hb)
  replace G := Lib.hid (G.out.on hb)
  replace B := Lib.hid (B.out.trans (hb.mono B.out.size))
  clear hb
  obtain ⟨hv, hc, hs0', hs1', hva⟩ := tc_parts hok
  have hsm := sum_addL (s := s) hv hc
  obtain ⟨v1, h1⟩ : ∃ z, loV t ks (addL us cl s) = z := ⟨_, rfl⟩
  obtain ⟨v2, h2⟩ : ∃ z, loV t ks us = z := ⟨_, rfl⟩
  have hge : v2 ≤ v1 := by
    obtain ⟨m1, m2, _, _⟩ := used_room hv
    by_cases h0 : t = 0
    · subst h0
      rw [loV_0 hv] at h2
      rw [loV_0 hva] at h1
      omega
    · rw [loV_t hv h0] at h2
      rw [loV_t hva h0, hsm] at h1
      have := lo_mono (t := t) m2 hs0' (by omega)
      omega
  have hge' : decide (v2 ≤ v1) = true := by simp; omega
  have H1 := Lib.hid h1
  have H2 := Lib.hid h2
  clear hok hv hc hva hsm h1 h2
  obtain ⟨q0, q1, q2⟩ := Q.out.c3
  have ql := Q.out.lt
  obtain ⟨f0, f1, f2⟩ := F.out.c3
  have fl := F.out.lt
  go_wp2_with (fail)
  go_region_held3 (fun w' => w'.cell? ⟨w1.heap.size, 0, none⟩ = some (.int .i64 t) ∧ w'.cell? ⟨w1.heap.size, 1, none⟩ = some (.slice A1 n1 c1) ∧ w'.cell? ⟨w1.heap.size, 2, none⟩ = some (.slice A2 n2 c2) ∧ w'.cell? ⟨w2.heap.size, 0, none⟩ = some (.int .i64 t) ∧ w'.cell? ⟨w2.heap.size, 1, none⟩ = some (.slice A3 n3 c3) ∧ w'.cell? ⟨w2.heap.size, 2, none⟩ = some (.slice A4 n4 c4))
    (refine And.intro ?_ (And.intro ?_ (And.intro ?_ (And.intro ?_ (And.intro ?_ ?_)))) <;> ((first | with_reducible refine cell_up (w := w4) ?_ q0 | with_reducible refine cell_up (w := w4) ?_ q1 | with_reducible refine cell_up (w := w4) ?_ q2 | with_reducible refine cell_up (w := w4) ?_ f0 | with_reducible refine cell_up (w := w4) ?_ f1 | with_reducible refine cell_up (w := w4) ?_ f2); (repeat' (first | with_reducible exact HW1.out | with_reducible exact HW0.out | with_reducible exact Below.refl _ _ | with_reducible refine Below.drew ?_))))
    (first
     | (go_at_call 14; (with_reducible refine (call_int (impl_LoadOf_any t _ (by first | with_reducible exact I3.out | with_reducible exact I3.out.drew) (by first | with_reducible exact I4.out | with_reducible exact I4.out.drew)) H1.out).mono ?_); rintro e v0 ⟨rfl, hb⟩; have HW0 : Hid (Below w4.heap.size w4 v0) := Lib.hid (by first | exact hb | exact (Below.refl w4.heap.size w4).drew.trans hb); clear hb; have J1 := Lib.hid (I1.out.below HW0.out (Nat.le_refl _)); have J2 := Lib.hid (I2.out.below HW0.out (Nat.le_refl _)))
     | (go_at_call 14; (with_reducible refine (call_int (impl_LoadOf_any t _ (by first | with_reducible exact J1.out | with_reducible exact J1.out.drew) (by first | with_reducible exact J2.out | with_reducible exact J2.out.drew)) H2.out).mono ?_); rintro e v1' ⟨rfl, hb⟩; have HW1 : Hid (Below w4.heap.size w4 v1') := Lib.hid (by first | exact HW0.out.trans (hb.mono HW0.out.size) | exact (Below.drew HW0.out).trans (hb.mono (Below.size (Below.drew HW0.out)))); clear hb))
  all_goals (
    go_wp2_with (fail)
    go_ret
    exact ⟨ret_bool (by first | rfl | (simp; done) | (simp; omega)), by first | exact B.out.trans (HW1.out.mono B.out.size) | exact (B.out.trans (HW1.out.mono B.out.size)).drew⟩)
end Go.Proofs.Ytcbphifadokfeaa
