/-
  The walk of FnPassAllEmpty. (Its words were written by a program of my own.)
-/
import Derived.Test.YtokajigaicdffaaDrawPa
import Derived.Test.YtokajigaicdffaaBkP
import Derived.Test.YtokajigaicdffaaBkN
import Derived.Deep.RegionHeld3
import Derived.Deep.DeepMust
import Derived.Deep.DeepCutAuto
namespace Go.Proofs.Ytokajigaicdffaa
open Go.RowKit
-- CALL: W s0
set_option maxHeartbeats 1600000 in
theorem walk_FnPassAllEmpty {A : Option Addr} {n c : Nat} {zs : List Int} (w : World) (h : BS w A n c zs) :
    Calls Try.prog 5 #[.slice A n c] w fun e w' => e = .returned (.bool true) ∧ Below w.heap.size w w' := by
  have H := Lib.hid h
  clear h
  rcases Nat.lt_or_ge 1048576 n with h1 | h1
  · have h1' : (1048576 : Int) < (n : Int) := by omega
    go_enter Try.func5, Try.ntmps5
    go_wp2_with (fail)
    go_ret
    exact ⟨rfl, Below.refl _ _⟩
  have h1' : ¬ (1048576 : Int) < (n : Int) := by omega
  go_enter Try.func5, Try.ntmps5
  go_wp2_with (fail)
  refine (spec_DrawPassAll_any w H.out h1).mono ?_
  rintro e w1 ⟨s, p, l, t, xs, ys, A1, n1, k1, A4, n4, k4, rfl, ⟨hs0, hs1⟩, ⟨hp0, hp1⟩, ⟨hl0, hl1⟩, ⟨ht0, ht1⟩, hn1, hn4, i1, i4, hb⟩
  have T := Lib.hid i1
  have U := Lib.hid i4
  have B1 := Lib.hid hb
  have hz1 := B1.out.size
  clear hb i1 i4
  have HXL := Lib.hid T.out.len
  have HYL := Lib.hid U.out.len
  have hcap1 := T.out.cap
  have hcap4 := U.out.cap
  replace T := Lib.hid (T.out.alloc (.cells #[.int .i64 s, .int .i64 p, .int .i64 l, .int .i64 t] 24))
  replace U := Lib.hid (U.out.alloc (.cells #[.int .i64 s, .int .i64 p, .int .i64 l, .int .i64 t] 24))
  replace B1 := Lib.hid (B1.out.alloc B1.out.size (.cells #[.int .i64 s, .int .i64 p, .int .i64 l, .int .i64 t] 24))
  have Q := Lib.hid (Blk.new w1 24 #[.int .i64 s, .int .i64 p, .int .i64 l, .int .i64 t])
  obtain ⟨os, hos⟩ : ∃ os, paL s p l t xs ys = os := ⟨_, rfl⟩
  have HOS := Lib.hid hos
  clear hos
  obtain ⟨q0, q1, q2, q3⟩ := Q.out.c4
  go_wp2_with (fail)
  refine (impl_PassAll_any s p l t _ T.out U.out).mono ?_
  clear q0 q1 q2 q3
  rintro e w2 ⟨A2, n2, k2, rfl, ho, hb⟩
  rw [HOS.out] at ho
  have hoi := ho.is
  have HL := Lib.hid ho.len
  clear ho
  replace T := Lib.hid (T.out.below hb (Nat.le_refl _))
  replace U := Lib.hid (U.out.below hb (Nat.le_refl _))
  replace Q := Lib.hid (Q.out.on hb)
  replace B1 := Lib.hid (B1.out.trans (hb.mono B1.out.size))
  clear hb
  have I := Lib.hid hoi
  clear hoi
  have hcap2 := I.out.cap
  rcases Nat.lt_or_ge n2 1 with hs | hs
  · skip
    have hg : ((n2 : Int) == 0) = true := by simp; omega
    obtain ⟨q0, q1, q2, q3⟩ := Q.out.c4
    go_wp2_with (fail)
    refine (spec_PassAll_any s p l t _ T.out U.out).mono ?_
    clear q0 q1 q2 q3
    rintro e w3 ⟨A3, n3, k3, rfl, ho, hb⟩
    rw [HOS.out] at ho
    have hoi := ho.is
    clear ho
    replace T := Lib.hid (T.out.below hb (Nat.le_refl _))
    replace U := Lib.hid (U.out.below hb (Nat.le_refl _))
    replace I := Lib.hid (I.out.below hb (Nat.le_refl _))
    replace Q := Lib.hid (Q.out.on hb)
    replace B1 := Lib.hid (B1.out.trans (hb.mono B1.out.size))
    clear hb
    have K := Lib.hid hoi
    clear hoi
    go_wp2_with (fail)
    refine (call_b (laws_equalInts_any _ I.out K.out) (decide_eq_true rfl)).mono ?_
    rintro e w4 ⟨rfl, mm, h4⟩
    replace T := Lib.hid (show IS w4 A1 n1 k1 xs by rw [h4]; exact T.out.drewN mm)
    replace U := Lib.hid (show IS w4 A4 n4 k4 ys by rw [h4]; exact U.out.drewN mm)
    replace I := Lib.hid (show IS w4 A2 n2 k2 os by rw [h4]; exact I.out.drewN mm)
    replace K := Lib.hid (show IS w4 A3 n3 k3 os by rw [h4]; exact K.out.drewN mm)
    replace Q := Lib.hid (show Blk w4 (w1.heap.size) 24 #[.int .i64 s, .int .i64 p, .int .i64 l, .int .i64 t] by rw [h4]; exact Q.out)
    replace B1 := Lib.hid (show Below w.heap.size w w4 by rw [h4]; exact below_drewN B1.out mm)
    clear h4
    clear K
    obtain ⟨q0, q1, q2, q3⟩ := Q.out.c4
    go_wp2_with (fail)
    refine (spec_PassAll_any s p l t _ T.out U.out).mono ?_
    clear q0 q1 q2 q3
    rintro e w5 ⟨A3, n3, k3, rfl, ho, hb⟩
    rw [HOS.out] at ho
    have hoi := ho.is
    clear ho
    replace T := Lib.hid (T.out.below hb (Nat.le_refl _))
    replace U := Lib.hid (U.out.below hb (Nat.le_refl _))
    replace I := Lib.hid (I.out.below hb (Nat.le_refl _))
    replace Q := Lib.hid (Q.out.on hb)
    replace B1 := Lib.hid (B1.out.trans (hb.mono B1.out.size))
    clear hb
    have K := Lib.hid hoi
    clear hoi
    go_wp2_with (fail)
    refine (call_b (laws_equalInts_any _ I.out K.out) (decide_eq_true rfl)).mono ?_
    rintro e w6 ⟨rfl, mm, h4⟩
    replace T := Lib.hid (show IS w6 A1 n1 k1 xs by rw [h4]; exact T.out.drewN mm)
    replace U := Lib.hid (show IS w6 A4 n4 k4 ys by rw [h4]; exact U.out.drewN mm)
    replace I := Lib.hid (show IS w6 A2 n2 k2 os by rw [h4]; exact I.out.drewN mm)
    replace K := Lib.hid (show IS w6 A3 n3 k3 os by rw [h4]; exact K.out.drewN mm)
    replace Q := Lib.hid (show Blk w6 (w1.heap.size) 24 #[.int .i64 s, .int .i64 p, .int .i64 l, .int .i64 t] by rw [h4]; exact Q.out)
    replace B1 := Lib.hid (show Below w.heap.size w w6 by rw [h4]; exact below_drewN B1.out mm)
    clear h4
    clear K
    go_wp2_with (fail)
    go_ret
    exact ⟨ret_bool (by first | rfl | (simp; done) | (simp; omega)), B1.out⟩
  have hg : ((n2 : Int) == 0) = false := by simp; omega
  have HP : Hid (paOK s p l t xs ys = true) := Lib.hid (by
    rcases h : paOK s p l t xs ys with _ | _
    · have h1 := HL.out; rw [← HOS.out, paL_f h] at h1; simp at h1; omega
    · rfl)
  have hnn : n2 = n1 := by have h1 := HL.out; rw [← HOS.out, paL_t HP.out, paN_len] at h1; have h2 := HXL.out; omega
  have hnm : n4 = n1 := by have h1 := (paOK_in HP.out).2.1; have h2 := HXL.out; have h3 := HYL.out; omega
  have h12 : n1 ≤ 12 := by have h1 := (paOK_in HP.out).2.2.1; have h2 := HXL.out; omega
  subst hnn
  subst hnm
  have HON : Hid (os = paN s p l t xs ys n4) := Lib.hid (by rw [← HOS.out, paL_t HP.out, HXL.out])
  obtain ⟨q0, q1, q2, q3⟩ := Q.out.c4
  go_wp2_with (fail)
  refine (spec_PassAll_any s p l t _ T.out U.out).mono ?_
  clear q0 q1 q2 q3
  rintro e w3 ⟨A3, n3, k3, rfl, ho, hb⟩
  rw [HOS.out] at ho
  have hoi := ho.is
  clear ho
  replace T := Lib.hid (T.out.below hb (Nat.le_refl _))
  replace U := Lib.hid (U.out.below hb (Nat.le_refl _))
  replace I := Lib.hid (I.out.below hb (Nat.le_refl _))
  replace Q := Lib.hid (Q.out.on hb)
  replace B1 := Lib.hid (B1.out.trans (hb.mono B1.out.size))
  clear hb
  have K := Lib.hid hoi
  clear hoi
  go_wp2_with (fail)
  refine (call_b (laws_equalInts_any _ I.out K.out) (decide_eq_true rfl)).mono ?_
  rintro e w4 ⟨rfl, mm, h4⟩
  replace T := Lib.hid (show IS w4 A1 n4 k1 xs by rw [h4]; exact T.out.drewN mm)
  replace U := Lib.hid (show IS w4 A4 n4 k4 ys by rw [h4]; exact U.out.drewN mm)
  replace I := Lib.hid (show IS w4 A2 n4 k2 os by rw [h4]; exact I.out.drewN mm)
  replace K := Lib.hid (show IS w4 A3 n3 k3 os by rw [h4]; exact K.out.drewN mm)
  replace Q := Lib.hid (show Blk w4 (w1.heap.size) 24 #[.int .i64 s, .int .i64 p, .int .i64 l, .int .i64 t] by rw [h4]; exact Q.out)
  replace B1 := Lib.hid (show Below w.heap.size w w4 by rw [h4]; exact below_drewN B1.out mm)
  clear h4
  clear K
  have hbk := bkV_in (paOK_in HP.out).1
  have e1 := T.out.at_ (k := 0) (by omega)
  have e2 := U.out.at_ (k := 0) (by omega)
  have e3 := I.out.at_ (k := 0) (by omega)
  obtain ⟨g1, o1, x, rfl, hx, hc1⟩ := e1
  obtain ⟨g2, o2, y, rfl, hy, hc2⟩ := e2
  obtain ⟨g3, o3, b, rfl, hb, hc3⟩ := e3
  have hxg := getD_of hx
  have hyg := getD_of hy
  have hkx : 0 < xs.length := by have := HXL.out; omega
  have hx20 := allR_at hx (paOK_in HP.out).2.2.2.1
  have hy20 := allR_at hy (paOK_in HP.out).2.2.2.2.1
  have hbe : b = toI (paB s p l t xs ys 0) := by
    rw [HON.out] at hb
    simp only [paN, List.getElem?_map, List.getElem?_range (show 0 < n4 by omega), Option.map_some, Option.some.injEq] at hb
    exact hb.symm
  have hpb : paB s p l t xs ys 0 = tkOK s p l t x y := by unfold paB; rw [hxg, hyg]; rfl
  rw [hpb] at hbe
  have hc1' : w4.cell? ⟨g1, o1, none⟩ = some (.int .i64 x) := by simpa using hc1
  have hc2' : w4.cell? ⟨g2, o2, none⟩ = some (.int .i64 y) := by simpa using hc2
  have hc3' : w4.cell? ⟨g3, o3, none⟩ = some (.int .i64 b) := by simpa using hc3
  have s0 : (0 : Int) < (n4 : Int) := by omega
  have s0n : 0 < n4 := by omega
  have s1 : (1 : Int) ≤ (n4 : Int) := by omega
  have hnc1 := T.out.2.1
  have hnc2 := U.out.2.1
  have hnc3 := I.out.2.1
  have hcm1 := T.out.2.2.1
  have hcm2 := U.out.2.2.1
  have hcm3 := I.out.2.2.1
  simp only [maxLen] at hcm1 hcm2 hcm3
  have s2 : (n4 : Int) ≤ (k1 : Int) := by omega
  have s3 : (n4 : Int) ≤ (k4 : Int) := by omega
  have s4 : (n4 : Int) ≤ (k2 : Int) := by omega
  have s5 : (1 : Int) ≤ (k1 : Int) := by omega
  have s6 : (1 : Int) ≤ (k4 : Int) := by omega
  obtain ⟨v, hv⟩ : ∃ v, lvV s p l t y = v := ⟨_, rfl⟩
  have hbv : (b == 1) = decide (x ≤ v) := by
    rw [hbe]
    unfold tkOK
    rw [hv]
    rcases Int.lt_or_le v x with h | h
    · rw [inR_h h]; simp [toI]; omega
    · rw [inR_t (by omega) h]; simp [toI]; omega
  have HV := Lib.hid hv
  have hone := pa_one HP.out hkx
  rw [hpb, ← hbe] at hone
  have HONE := Lib.hid hone
  have HBV := Lib.hid hbv
  have P1 : Hid (IS w4 (some ⟨g1, o1, none⟩) 1 k1 (xs.take 1)) := Lib.hid (by have h := T.out.cut (lo := 0) (hi := 1) (by omega) (by omega); simpa using h)
  have P2 : Hid (IS w4 (some ⟨g2, o2, none⟩) 1 k4 (ys.take 1)) := Lib.hid (by have h := U.out.cut (lo := 0) (hi := 1) (by omega) (by omega); simpa using h)
  clear hx hy hb hxg hyg hbe hpb hv hone hbv hc1 hc2 hc3
  have Qw := Q
  obtain ⟨q0, q1, q2, q3⟩ := Qw.out.c4
  have ql := Qw.out.lt
  go_wp2_with (fail)
  go_region_held3 (fun w' => w'.cell? ⟨w1.heap.size, 0, none⟩ = some (.int .i64 s) ∧ w'.cell? ⟨w1.heap.size, 1, none⟩ = some (.int .i64 p) ∧ w'.cell? ⟨w1.heap.size, 2, none⟩ = some (.int .i64 l) ∧ w'.cell? ⟨w1.heap.size, 3, none⟩ = some (.int .i64 t))
    (refine And.intro ?_ (And.intro ?_ (And.intro ?_ ?_)) <;> ((first | with_reducible refine cell_up (w := w4) ?_ q0 | with_reducible refine cell_up (w := w4) ?_ q1 | with_reducible refine cell_up (w := w4) ?_ q2 | with_reducible refine cell_up (w := w4) ?_ q3); (repeat' (first | with_reducible exact HW.out | with_reducible exact Below.refl _ _ | with_reducible refine Below.drew ?_))))
    (first
     | (go_at_call 7; go_must (refine (impl_PassAll_any s p l t _ (by first | exact P1.out | exact P1.out.drew) (by first | exact P2.out | exact P2.out.drew)).mono ?_; rintro e w6 ⟨A6, n6, k6, rfl, ho, hb⟩; have HW : Hid (Below w4.heap.size w4 w6) := Lib.hid (by first | exact hb | exact (Below.refl w4.heap.size w4).drew.trans hb); rw [HONE.out] at ho; have J6 := Lib.hid ho.is; clear ho hb)))
  all_goals (
    obtain rfl : n6 = 1 := by have := J6.out.len; simpa using this.symm
    have e6 := J6.out.at_ (k := 0) (by omega)
    obtain ⟨g6, o6, b6, rfl, hb6, hc6⟩ := e6
    obtain rfl : b = b6 := by simpa using hb6
    have c6 : w6.cell? ⟨g6, o6, none⟩ = some (.int .i64 b) := by simpa using hc6
    have z1 := cell_up HW.out hc1'
    have z2 := cell_up HW.out hc2'
    have z3 := cell_up HW.out hc3'
    have z4 := cell_up HW.out q0
    have z5 := cell_up HW.out q1
    have z6 := cell_up HW.out q2
    have z7 := cell_up HW.out q3
    have HB6 := Lib.hid (B1.out.trans (HW.out.mono B1.out.size))
    have hbb : (b == b) = true := by simp
    obtain ⟨zb, hzb⟩ : ∃ zb, decide (x ≤ v) = zb := ⟨_, rfl⟩
    have hbz : (b == 1) = zb := by rw [HBV.out, hzb]
    have hzz : (zb == zb) = true := by simp
    clear hb6 hc6 hc1' hc2' hc3' q0 q1 q2 q3
    go_wp2_with (fail)
    go_region_held3 (fun w' => w'.cell? ⟨w1.heap.size, 0, none⟩ = some (.int .i64 s) ∧ w'.cell? ⟨w1.heap.size, 1, none⟩ = some (.int .i64 p) ∧ w'.cell? ⟨w1.heap.size, 2, none⟩ = some (.int .i64 l) ∧ w'.cell? ⟨w1.heap.size, 3, none⟩ = some (.int .i64 t) ∧ w'.cell? ⟨g6, o6, none⟩ = some (.int .i64 b) ∧ w'.cell? ⟨g3, o3, none⟩ = some (.int .i64 b) ∧ w'.cell? ⟨g2, o2, none⟩ = some (.int .i64 y) ∧ w'.cell? ⟨g1, o1, none⟩ = some (.int .i64 x))
      (refine And.intro ?_ (And.intro ?_ (And.intro ?_ (And.intro ?_ (And.intro ?_ (And.intro ?_ (And.intro ?_ ?_)))))) <;> ((first | with_reducible refine cell_up (w := w6) ?_ z4 | with_reducible refine cell_up (w := w6) ?_ z5 | with_reducible refine cell_up (w := w6) ?_ z6 | with_reducible refine cell_up (w := w6) ?_ z7 | with_reducible refine cell_up (w := w6) ?_ c6 | with_reducible refine cell_up (w := w6) ?_ z3 | with_reducible refine cell_up (w := w6) ?_ z2 | with_reducible refine cell_up (w := w6) ?_ z1); (repeat' (first | with_reducible exact HW2.out | with_reducible exact Below.refl _ _ | with_reducible refine Below.drew ?_))))
      (first
       | (go_at_call 11; go_must (refine (call_int (impl_LevelAt_any s p l t y _) HV.out).mono ?_; rintro e w7 ⟨rfl, hb⟩; have HW2 : Hid (Below w6.heap.size w6 w7) := Lib.hid (by first | exact hb | exact (Below.refl w6.heap.size w6).drew.trans hb); clear hb)))
    all_goals (
      go_wp2_with (fail)
      go_ret
      exact ⟨ret_bool (by first | rfl | (simp; done) | (simp [HBV.out]; done)), by first | exact HB6.out.trans (HW2.out.mono HB6.out.size) | exact (HB6.out.trans (HW2.out.mono HB6.out.size)).drew⟩))
end Go.Proofs.Ytokajigaicdffaa
