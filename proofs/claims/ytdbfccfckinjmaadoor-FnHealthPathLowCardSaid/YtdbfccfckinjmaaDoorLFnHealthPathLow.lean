/-
  The walk of FnHealthPathLow. (Its words were written by a program of my own.)
-/
import Derived.Test.YtdbfccfckinjmaaDoorDrawMk
import Derived.Test.YtdbfccfckinjmaaDoorHp
import Derived.Test.YtdbfccfckinjmaaDoorMkN
import Derived.Deep.RegionHeld3
import Derived.Deep.DeepMust
import Derived.Deep.DeepCutAuto
namespace Go.Proofs.YtdbfccfckinjmaaDoor
open Go.RowKit
-- CALL: W s0 wa0
set_option maxHeartbeats 1600000 in
theorem walk_FnHealthPathLow {A : Option Addr} {n c' : Nat} {zs : List Int} (w : World) (h : BS w A n c' zs) (ha : HA w) :
    Calls Tryd.prog 11 #[.slice A n c'] w fun e w' => e = .returned (.bool true) ∧ Below w.heap.size w w' := by
  have H := Lib.hid h
  have T0 := Lib.hid ha
  clear h ha
  rcases Nat.lt_or_ge 1048576 n with h1 | h1
  · have h1' : (1048576 : Int) < (n : Int) := by omega
    go_enter Tryd.func11, Tryd.ntmps11
    go_wp2_with (fail)
    go_ret
    exact ⟨rfl, Below.refl _ _⟩
  have h1' : ¬ (1048576 : Int) < (n : Int) := by omega
  go_enter Tryd.func11, Tryd.ntmps11
  go_wp2_with (fail)
  refine (spec_DrawHealthPath_any w H.out h1).mono ?_
  rintro e w1 ⟨a, b, c, d, xs, A1, n1, k1, rfl, ⟨a0, a1⟩, ⟨b0, b1⟩, ⟨c0, c1⟩, ⟨d0, d1⟩, hn14, i1, g1, hb⟩
  have T := Lib.hid i1
  have B1 := Lib.hid hb
  have hz1 := B1.out.size
  clear hb i1
  clear g1
  have HXL := Lib.hid T.out.len
  have hcap1 := T.out.cap
  replace T := Lib.hid (T.out.alloc (.cells #[.int .i64 a, .int .i64 b, .int .i64 c, .int .i64 d] 25))
  replace B1 := Lib.hid (B1.out.alloc B1.out.size (.cells #[.int .i64 a, .int .i64 b, .int .i64 c, .int .i64 d] 25))
  have Q := Lib.hid (Blk.new w1 25 #[.int .i64 a, .int .i64 b, .int .i64 c, .int .i64 d])
  obtain ⟨os, hos⟩ : ∃ os, hpL a b c d xs = os := ⟨_, rfl⟩
  have HOS := Lib.hid hos
  clear hos
  obtain ⟨q0, q1, q2, q3⟩ := Q.out.c4
  go_wp2_with (fail)
  refine (impl_HealthPath_any a b c d _ T.out (T0.out.below B1.out (Nat.le_refl _))).mono ?_
  clear q0 q1 q2 q3
  rintro e w2 ⟨A2, n2, k2, rfl, ho, hb⟩
  rw [HOS.out] at ho
  have hoi := ho.is
  have HL := Lib.hid ho.len
  clear ho
  replace T := Lib.hid (T.out.below hb (Nat.le_refl _))
  replace Q := Lib.hid (Q.out.on hb)
  replace B1 := Lib.hid (B1.out.trans (hb.mono B1.out.size))
  clear hb
  have I := Lib.hid hoi
  clear hoi
  have hcap2 := I.out.cap
  rcases Nat.lt_or_ge n2 1 with hs | hs
  · skip
    have hg : ((n2 : Int) == 0) = true := by simp; omega
    obtain ⟨q0, q1, q2, q3⟩ := Q.out.c4
    go_wp2_with (fail)
    refine (spec_HealthPath_any a b c d _ T.out).mono ?_
    clear q0 q1 q2 q3
    rintro e w3 ⟨A3, n3, k3, rfl, ho, hb⟩
    rw [HOS.out] at ho
    have hoi := ho.is
    clear ho
    replace T := Lib.hid (T.out.below hb (Nat.le_refl _))
    replace I := Lib.hid (I.out.below hb (Nat.le_refl _))
    replace Q := Lib.hid (Q.out.on hb)
    replace B1 := Lib.hid (B1.out.trans (hb.mono B1.out.size))
    clear hb
    have K := Lib.hid hoi
    clear hoi
    go_wp2_with (fail)
    refine (call_b (laws_equalInts_any _ I.out K.out) (decide_eq_true rfl)).mono ?_
    rintro e w4 ⟨rfl, mm, h4⟩
    replace T := Lib.hid (show IS w4 A1 n1 k1 xs by rw [h4]; exact T.out.drewN mm)
    replace I := Lib.hid (show IS w4 A2 n2 k2 os by rw [h4]; exact I.out.drewN mm)
    replace K := Lib.hid (show IS w4 A3 n3 k3 os by rw [h4]; exact K.out.drewN mm)
    replace Q := Lib.hid (show Blk w4 (w1.heap.size) 25 #[.int .i64 a, .int .i64 b, .int .i64 c, .int .i64 d] by rw [h4]; exact Q.out)
    replace B1 := Lib.hid (show Below w.heap.size w w4 by rw [h4]; exact below_drewN B1.out mm)
    clear h4
    clear K
    obtain ⟨q0, q1, q2, q3⟩ := Q.out.c4
    go_wp2_with (fail)
    refine (spec_HealthPath_any a b c d _ T.out).mono ?_
    clear q0 q1 q2 q3
    rintro e w5 ⟨A3, n3, k3, rfl, ho, hb⟩
    rw [HOS.out] at ho
    have hoi := ho.is
    clear ho
    replace T := Lib.hid (T.out.below hb (Nat.le_refl _))
    replace I := Lib.hid (I.out.below hb (Nat.le_refl _))
    replace Q := Lib.hid (Q.out.on hb)
    replace B1 := Lib.hid (B1.out.trans (hb.mono B1.out.size))
    clear hb
    have K := Lib.hid hoi
    clear hoi
    go_wp2_with (fail)
    refine (call_b (laws_equalInts_any _ I.out K.out) (decide_eq_true rfl)).mono ?_
    rintro e w6 ⟨rfl, mm, h4⟩
    replace T := Lib.hid (show IS w6 A1 n1 k1 xs by rw [h4]; exact T.out.drewN mm)
    replace I := Lib.hid (show IS w6 A2 n2 k2 os by rw [h4]; exact I.out.drewN mm)
    replace K := Lib.hid (show IS w6 A3 n3 k3 os by rw [h4]; exact K.out.drewN mm)
    replace Q := Lib.hid (show Blk w6 (w1.heap.size) 25 #[.int .i64 a, .int .i64 b, .int .i64 c, .int .i64 d] by rw [h4]; exact Q.out)
    replace B1 := Lib.hid (show Below w.heap.size w w6 by rw [h4]; exact below_drewN B1.out mm)
    clear h4
    clear K
    go_wp2_with (fail)
    go_ret
    exact ⟨ret_bool (by first | rfl | (simp; done) | (simp; omega)), B1.out⟩
  have hg : ((n2 : Int) == 0) = false := by simp; omega
  have HP : Hid (hpOK a b c d xs = true) := Lib.hid (by
    rcases h : hpOK a b c d xs with _ | _
    · have h1 := HL.out; rw [← HOS.out, hpL_f h] at h1; simp at h1; omega
    · rfl)
  have hnn : n2 = n1 := by have h1 := HL.out; rw [← HOS.out, hpL_t HP.out, hpN_len] at h1; have h2 := HXL.out; omega
  subst hnn
  obtain ⟨q0, q1, q2, q3⟩ := Q.out.c4
  go_wp2_with (fail)
  refine (spec_HealthPath_any a b c d _ T.out).mono ?_
  clear q0 q1 q2 q3
  rintro e w3 ⟨A3, n3, k3, rfl, ho, hb⟩
  rw [HOS.out] at ho
  have hoi := ho.is
  clear ho
  replace T := Lib.hid (T.out.below hb (Nat.le_refl _))
  replace I := Lib.hid (I.out.below hb (Nat.le_refl _))
  replace Q := Lib.hid (Q.out.on hb)
  replace B1 := Lib.hid (B1.out.trans (hb.mono B1.out.size))
  clear hb
  have K := Lib.hid hoi
  clear hoi
  go_wp2_with (fail)
  refine (call_b (laws_equalInts_any _ I.out K.out) (decide_eq_true rfl)).mono ?_
  rintro e w4 ⟨rfl, mm, h4⟩
  replace T := Lib.hid (show IS w4 A1 n2 k1 xs by rw [h4]; exact T.out.drewN mm)
  replace I := Lib.hid (show IS w4 A2 n2 k2 os by rw [h4]; exact I.out.drewN mm)
  replace K := Lib.hid (show IS w4 A3 n3 k3 os by rw [h4]; exact K.out.drewN mm)
  replace Q := Lib.hid (show Blk w4 (w1.heap.size) 25 #[.int .i64 a, .int .i64 b, .int .i64 c, .int .i64 d] by rw [h4]; exact Q.out)
  replace B1 := Lib.hid (show Below w.heap.size w w4 by rw [h4]; exact below_drewN B1.out mm)
  clear h4
  clear K
  obtain ⟨K, hK⟩ : ∃ K, n2 = K + 1 := ⟨n2 - 1, by omega⟩
  have hKn : K < n2 := by omega
  have HKn := Lib.hid hK
  have hw1 : IntKind.i64.wrap ((n2 : Int) - 1) = (K : Int) := by rw [IntKind.wrap_i64]; omega
  have h12 : n2 ≤ 12 := by have h1 := (hpOK_in HP.out).2.1; have h2 := HXL.out; omega
  clear hK
  have e0 := T.out.at_ (k := K) (by omega)
  have e1 := I.out.at_ (k := K) (by omega)
  obtain ⟨b1', off1, x, rfl, hx, hc⟩ := e0
  obtain ⟨b2', off2, v, rfl, hv, hc'⟩ := e1
  have hlast := hp_last HP.out (by rw [HOS.out]; exact hv) hx
  clear hx hv
  have s0 : (0 : Int) ≤ (K : Int) := by omega
  have s1 : (K : Int) < (n2 : Int) := by omega
  obtain ⟨l1, l2⟩ := hlast
  have HL1 := Lib.hid l1
  have HL2 := Lib.hid l2
  clear l1 l2
  by_cases hax : a ≤ x
  · skip
    have hax' : decide (a ≤ x) = true := by simp; omega
    by_cases hxd : x < d
    · skip
      obtain ⟨q0, q1, q2, q3⟩ := Q.out.c4
      go_wp2_with (fail)
      go_ret
      exact ⟨ret_bool (by first | rfl | (simp; done) | (simp; omega)), B1.out⟩
    have hxd' : decide (x < d) = false := by simp; omega
    have hv2 : (v == 2) = true := by have := HL2.out; simp; omega
    obtain ⟨q0, q1, q2, q3⟩ := Q.out.c4
    go_wp2_with (fail)
    go_ret
    exact ⟨ret_bool (by first | rfl | (simp; done) | (simp; omega)), B1.out⟩
  have hax' : decide (a ≤ x) = false := by simp; omega
  have hv0 : (v == 0) = true := by have := HL1.out; simp; omega
  have hml := mkV_in (hpOK_in HP.out).1
  have hxd : x < d := by omega
  obtain ⟨q0, q1, q2, q3⟩ := Q.out.c4
  go_wp2_with (fail)
  go_ret
  exact ⟨ret_bool (by first | rfl | (simp; done) | (simp; omega)), B1.out⟩
end Go.Proofs.YtdbfccfckinjmaaDoor
