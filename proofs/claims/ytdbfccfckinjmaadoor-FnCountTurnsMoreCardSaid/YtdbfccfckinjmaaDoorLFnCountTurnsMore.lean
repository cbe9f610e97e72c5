/-
  The walk of FnCountTurnsMore. (Its words were written by a program of my own.)
-/
import Derived.Test.YtdbfccfckinjmaaDoorDrawMk
import Derived.Test.YtdbfccfckinjmaaDoorHp
import Derived.Test.YtdbfccfckinjmaaDoorMkN
import Derived.Deep.RegionHeld3
import Derived.Deep.DeepMust
import Derived.Deep.DeepCutAuto
namespace Go.Proofs.YtdbfccfckinjmaaDoor
open Go.RowKit
-- CALL: W s0 wa0
set_option maxHeartbeats 1600000 in
theorem walk_FnCountTurnsMore {A : Option Addr} {n c' : Nat} {zs : List Int} (w : World) (h : BS w A n c' zs) (ha : HA w) :
    Calls Tryd.prog 13 #[.slice A n c'] w fun e w' => e = .returned (.bool true) ∧ Below w.heap.size w w' := by
  have H := Lib.hid h
  have T0 := Lib.hid ha
  clear h ha
  rcases Nat.lt_or_ge 1048576 n with h1 | h1
  · have h1' : (1048576 : Int) < (n : Int) := by omega
    go_enter Tryd.func13, Tryd.ntmps13
    go_wp2_with (fail)
    go_ret
    exact ⟨rfl, Below.refl _ _⟩
  have h1' : ¬ (1048576 : Int) < (n : Int) := by omega
  go_enter Tryd.func13, Tryd.ntmps13
  go_wp2_with (fail)
  refine (spec_DrawCountTurns_any w H.out h1).mono ?_
  rintro e w1 ⟨a, b, c, d, xs, A1, n1, k1, rfl, ⟨a0, a1⟩, ⟨b0, b1⟩, ⟨c0, c1⟩, ⟨d0, d1⟩, hn14, i1, g1, hb⟩
  have T := Lib.hid i1
  have B1 := Lib.hid hb
  have hz1 := B1.out.size
  clear hb i1
  clear g1
  have HXL := Lib.hid T.out.len
  have hcap1 := T.out.cap
  replace T := Lib.hid (T.out.alloc (.cells #[.int .i64 a, .int .i64 b, .int .i64 c, .int .i64 d] 25))
  replace B1 := Lib.hid (B1.out.alloc B1.out.size (.cells #[.int .i64 a, .int .i64 b, .int .i64 c, .int .i64 d] 25))
  have Q := Lib.hid (Blk.new w1 25 #[.int .i64 a, .int .i64 b, .int .i64 c, .int .i64 d])
  obtain ⟨v, hv⟩ : ∃ v, ctV a b c d xs = v := ⟨_, rfl⟩
  have HV := Lib.hid hv
  clear hv
  by_cases h0 : v < 0
  · skip
    obtain ⟨q0, q1, q2, q3⟩ := Q.out.c4
    go_wp2_with (fail)
    refine (call_int (impl_CountTurns_any a b c d _ T.out (T0.out.below B1.out (Nat.le_refl _))) HV.out).mono ?_
    clear q0 q1 q2 q3
    rintro e w2 ⟨rfl, hb⟩
    replace T := Lib.hid (T.out.below hb (Nat.le_refl _))
    replace Q := Lib.hid (Q.out.on hb)
    replace B1 := Lib.hid (B1.out.trans (hb.mono B1.out.size))
    clear hb
    obtain ⟨q0, q1, q2, q3⟩ := Q.out.c4
    go_wp2_with (fail)
    refine (call_int (spec_CountTurns_any a b c d _ T.out) HV.out).mono ?_
    clear q0 q1 q2 q3
    rintro e w3 ⟨rfl, hb⟩
    replace T := Lib.hid (T.out.below hb (Nat.le_refl _))
    replace Q := Lib.hid (Q.out.on hb)
    replace B1 := Lib.hid (B1.out.trans (hb.mono B1.out.size))
    clear hb
    obtain ⟨q0, q1, q2, q3⟩ := Q.out.c4
    go_wp2_with (fail)
    refine (call_int (spec_CountTurns_any a b c d _ T.out) HV.out).mono ?_
    clear q0 q1 q2 q3
    rintro e w4 ⟨rfl, hb⟩
    replace T := Lib.hid (T.out.below hb (Nat.le_refl _))
    replace Q := Lib.hid (Q.out.on hb)
    replace B1 := Lib.hid (B1.out.trans (hb.mono B1.out.size))
    clear hb
    go_wp2_with (fail)
    go_ret
    exact ⟨ret_bool (by first | rfl | (simp; done) | (simp; omega)), B1.out⟩
  have h0n : ¬ v < 0 := h0
  clear h0
  have HP : Hid (hpOK a b c d xs = true) := Lib.hid (by
    rcases h : hpOK a b c d xs with _ | _
    · have := HV.out; simp [ctV, h] at this; omega
    · rfl)
  have h12 : n1 ≤ 12 := by have h1 := (hpOK_in HP.out).2.1; have h2 := HXL.out; omega
  have HVN : Hid (ctN a b c d xs n1 = v) := Lib.hid (by have h := HV.out; simp only [ctV, HP.out, if_true, HXL.out] at h; exact h)
  have hvn : v ≤ (n1 : Int) := by have h := ctN_bd a b c d xs n1; rw [HVN.out] at h; exact h.2
  rcases Nat.lt_or_ge n1 1 with hs | hs
  · skip
    have hg : ((n1 : Int) == 0) = true := by simp; omega
    obtain ⟨q0, q1, q2, q3⟩ := Q.out.c4
    go_wp2_with (fail)
    refine (call_int (impl_CountTurns_any a b c d _ T.out (T0.out.below B1.out (Nat.le_refl _))) HV.out).mono ?_
    clear q0 q1 q2 q3
    rintro e w2 ⟨rfl, hb⟩
    replace T := Lib.hid (T.out.below hb (Nat.le_refl _))
    replace Q := Lib.hid (Q.out.on hb)
    replace B1 := Lib.hid (B1.out.trans (hb.mono B1.out.size))
    clear hb
    obtain ⟨q0, q1, q2, q3⟩ := Q.out.c4
    go_wp2_with (fail)
    refine (call_int (spec_CountTurns_any a b c d _ T.out) HV.out).mono ?_
    clear q0 q1 q2 q3
    rintro e w3 ⟨rfl, hb⟩
    replace T := Lib.hid (T.out.below hb (Nat.le_refl _))
    replace Q := Lib.hid (Q.out.on hb)
    replace B1 := Lib.hid (B1.out.trans (hb.mono B1.out.size))
    clear hb
    obtain ⟨q0, q1, q2, q3⟩ := Q.out.c4
    go_wp2_with (fail)
    refine (call_int (spec_CountTurns_any a b c d _ T.out) HV.out).mono ?_
    clear q0 q1 q2 q3
    rintro e w4 ⟨rfl, hb⟩
    replace T := Lib.hid (T.out.below hb (Nat.le_refl _))
    replace Q := Lib.hid (Q.out.on hb)
    replace B1 := Lib.hid (B1.out.trans (hb.mono B1.out.size))
    clear hb
    go_wp2_with (fail)
    go_ret
    exact ⟨ret_bool (by first | rfl | (simp; done) | (simp; omega)), B1.out⟩
  have hg : ((n1 : Int) == 0) = false := by simp; omega
  obtain ⟨q0, q1, q2, q3⟩ := Q.out.c4
  go_wp2_with (fail)
  refine (call_int (impl_CountTurns_any a b c d _ T.out (T0.out.below B1.out (Nat.le_refl _))) HV.out).mono ?_
  clear q0 q1 q2 q3
  rintro e w2 ⟨rfl, hb⟩
  replace T := Lib.hid (T.out.below hb (Nat.le_refl _))
  replace Q := Lib.hid (Q.out.on hb)
  replace B1 := Lib.hid (B1.out.trans (hb.mono B1.out.size))
  clear hb
  obtain ⟨q0, q1, q2, q3⟩ := Q.out.c4
  go_wp2_with (fail)
  refine (call_int (spec_CountTurns_any a b c d _ T.out) HV.out).mono ?_
  clear q0 q1 q2 q3
  rintro e w3 ⟨rfl, hb⟩
  replace T := Lib.hid (T.out.below hb (Nat.le_refl _))
  replace Q := Lib.hid (Q.out.on hb)
  replace B1 := Lib.hid (B1.out.trans (hb.mono B1.out.size))
  clear hb
  obtain ⟨K, hK⟩ : ∃ K, n1 = K + 1 := ⟨n1 - 1, by omega⟩
  have hKn : K < n1 := by omega
  have HKn := Lib.hid hK
  have hw1 : IntKind.i64.wrap ((n1 : Int) - 1) = (K : Int) := by rw [IntKind.wrap_i64]; omega
  clear hK
  have HCM := Lib.hid (ct_more HP.out (k := K) (by have := HXL.out; have := HKn.out; omega))
  obtain ⟨m, hm⟩ : ∃ m, ctV a b c d (xs.take K) = m := ⟨_, rfl⟩
  have HMV := Lib.hid hm
  have hmv : m = v ∨ m = v - 1 := by have h := HCM.out; rw [hm, HV.out] at h; exact h
  have hw2 : IntKind.i64.wrap (v - 1) = v - 1 := by rw [IntKind.wrap_i64]; omega
  clear hm
  have e0 := T.out.at_ (k := 0) (by omega)
  obtain ⟨b1', off1, _, rfl, _, _⟩ := e0
  have hnc1 := T.out.2.1
  have hcm1 := T.out.2.2.1
  simp only [maxLen] at hcm1
  have P1 : Hid (IS w3 (some ⟨b1', off1, none⟩) K k1 (xs.take K)) := Lib.hid (by have h := T.out.cut (lo := 0) (hi := K) (by omega) (by omega); simpa using h)
  have s0 : (0 : Int) ≤ (K : Int) := by omega
  have s1 : (K : Int) ≤ (n1 : Int) := by omega
  have s2 : (K : Int) ≤ (k1 : Int) := by omega
  have s4 : (n1 : Int) ≤ (k1 : Int) := by omega
  have Qw := Q
  obtain ⟨q0, q1, q2, q3⟩ := Qw.out.c4
  have ql := Qw.out.lt
  go_wp2_with (fail)
  go_region_held3 (fun w' => w'.cell? ⟨w1.heap.size, 0, none⟩ = some (.int .i64 a) ∧ w'.cell? ⟨w1.heap.size, 1, none⟩ = some (.int .i64 b) ∧ w'.cell? ⟨w1.heap.size, 2, none⟩ = some (.int .i64 c) ∧ w'.cell? ⟨w1.heap.size, 3, none⟩ = some (.int .i64 d))
    (refine And.intro ?_ (And.intro ?_ (And.intro ?_ ?_)) <;> ((first | with_reducible refine cell_up (w := w3) ?_ q0 | with_reducible refine cell_up (w := w3) ?_ q1 | with_reducible refine cell_up (w := w3) ?_ q2 | with_reducible refine cell_up (w := w3) ?_ q3); (repeat' (first | with_reducible exact HW.out | with_reducible exact Below.refl _ _ | with_reducible refine Below.drew ?_))))
    (first
     | (go_at_call 24; go_must (refine (call_int (impl_CountTurns_any a b c d _ (by first | exact P1.out | exact P1.out.drew) (by first | exact (T0.out.below B1.out (Nat.le_refl _)) | exact HA.drew (T0.out.below B1.out (Nat.le_refl _)))) HMV.out).mono ?_; rintro e w6 ⟨rfl, hb⟩; have HW : Hid (Below w3.heap.size w3 w6) := Lib.hid (by first | exact hb | exact (Below.refl w3.heap.size w3).drew.trans hb); clear hb)))
  all_goals (
    by_cases hmm : m = v
    · have hmm' : (m == v) = true := by simp [hmm]
      clear hmm hmv
      go_wp2_with (fail)
      go_ret
      exact ⟨ret_bool (by first | rfl | (simp; done)), by first | exact B1.out.trans (HW.out.mono B1.out.size) | exact (B1.out.trans (HW.out.mono B1.out.size)).drew⟩
    · have hmm' : (m == v) = false := by simp [hmm]
      have hmm2 : (m == v - 1) = true := by simp; omega
      clear hmm hmv
      go_wp2_with (fail)
      go_ret
      exact ⟨ret_bool (by first | rfl | (simp; done)), by first | exact B1.out.trans (HW.out.mono B1.out.size) | exact (B1.out.trans (HW.out.mono B1.out.size)).drew⟩)
end Go.Proofs.YtdbfccfckinjmaaDoor
