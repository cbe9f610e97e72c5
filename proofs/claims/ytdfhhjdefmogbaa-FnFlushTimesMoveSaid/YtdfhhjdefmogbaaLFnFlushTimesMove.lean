/-
  The walk of FnFlushTimesMove. (Its words were written by a program of my own.)
-/
import Derived.Test.YtdfhhjdefmogbaaDrawF
import Derived.Test.YtdfhhjdefmogbaaFlC
import Derived.Test.YtdfhhjdefmogbaaFlN
import Derived.Deep.RegionHeld3
import Derived.Deep.DeepMust
import Derived.Deep.DeepCutAuto
namespace Go.Proofs.Ytdfhhjdefmogbaa
open Go.RowKit
-- CALL: W s0
set_option maxHeartbeats 8000000 in
theorem walk_FnFlushTimesMove {A : Option Addr} {n c : Nat} {zs : List Int} (w : World) (h : BS w A n c zs) :
    Calls Try.prog 6 #[.slice A n c] w fun e w' => e = .returned (.bool true) ∧ Below w.heap.size w w' := by
  have H := Lib.hid h
  clear h
  rcases Nat.lt_or_ge 1048576 n with h1 | h1
  · have h1' : (1048576 : Int) < (n : Int) := by omega
    go_enter Try.func6, Try.ntmps6
    go_wp2_with (fail)
    go_ret
    exact ⟨rfl, Below.refl _ _⟩
  have h1' : ¬ (1048576 : Int) < (n : Int) := by omega
  go_enter Try.func6, Try.ntmps6
  go_wp2_with (fail)
  refine (spec_DrawFlushTimes_any w H.out h1).mono ?_
  rintro e w1 ⟨xs, A1, n1, c1, a, m, rfl, hn14, ⟨a0, a1⟩, ⟨m0, m1⟩, i1, hbl⟩
  have T1 := Lib.hid i1
  have B1 := Lib.hid hbl
  have HXL := Lib.hid i1.len
  clear i1 hbl
  obtain ⟨os, hos⟩ : ∃ os, flV xs a m = os := ⟨_, rfl⟩
  have HOS := Lib.hid hos
  clear hos
  go_wp2_with (fail)
  refine (impl_FlushTimes_any a m w1 T1.out).mono ?_
  rintro e w2 ⟨A2, n2, c2, rfl, ho, hb⟩
  rw [HOS.out] at ho
  have hn7 : n2 ≤ 12 := by
    have h1 := ho.len
    have h2 := flV_le xs a m
    rw [HOS.out] at h2
    omega
  have HL := Lib.hid ho.len
  have I1 := Lib.hid ho.is
  have B2 := Lib.hid (B1.out.trans (hb.mono B1.out.size))
  replace T1 := Lib.hid (T1.out.below hb (Nat.le_refl _))
  clear ho hb
  rcases Nat.lt_or_ge n2 1 with hs | hs
  · skip
    have hg : ((n2 : Int) == 0) = true := by simp; omega
    go_wp2_with (fail)
    refine (spec_FlushTimes_any a _ w2 T1.out).mono ?_
    rintro e w3 ⟨A2_, n2_, c2_, rfl, ho, hb⟩
    rw [HOS.out] at ho
    have K2 := Lib.hid ho.is
    have J2 := Lib.hid (I1.out.below hb (Nat.le_refl _))
    have TJ := Lib.hid (T1.out.below hb (Nat.le_refl _))
    have B3 := Lib.hid (B2.out.trans (hb.mono B2.out.size))
    clear ho hb
    go_wp2_with (fail)
    refine (call_b (laws_equalInts_any w3 J2.out K2.out) (decide_eq_true rfl)).mono ?_
    rintro e w4 ⟨rfl, mm, h4⟩
    have B4 := Lib.hid (show Below w.heap.size w w4 by rw [h4]; exact below_drewN B3.out mm)
    replace I1 := Lib.hid (show IS w4 A2 n2 c2 os by rw [h4]; exact J2.out.drewN mm)
    replace T1 := Lib.hid (show IS w4 A1 n1 c1 xs by rw [h4]; exact TJ.out.drewN mm)
    clear h4 J2 K2 TJ
    go_wp2_with (fail)
    refine (spec_FlushTimes_any a _ w4 T1.out).mono ?_
    rintro e w5 ⟨A4_, n4_, c4_, rfl, ho, hb⟩
    rw [HOS.out] at ho
    have K4 := Lib.hid ho.is
    have J4 := Lib.hid (I1.out.below hb (Nat.le_refl _))
    have TJ := Lib.hid (T1.out.below hb (Nat.le_refl _))
    have B5 := Lib.hid (B4.out.trans (hb.mono B4.out.size))
    clear ho hb
    go_wp2_with (fail)
    refine (call_b (laws_equalInts_any w5 J4.out K4.out) (decide_eq_true rfl)).mono ?_
    rintro e w6 ⟨rfl, mm, h4⟩
    have B6 := Lib.hid (show Below w.heap.size w w6 by rw [h4]; exact below_drewN B5.out mm)
    replace I1 := Lib.hid (show IS w6 A2 n2 c2 os by rw [h4]; exact J4.out.drewN mm)
    replace T1 := Lib.hid (show IS w6 A1 n1 c1 xs by rw [h4]; exact TJ.out.drewN mm)
    clear h4 J4 K4 TJ
    go_wp2_with (fail)
    go_ret
    exact ⟨rfl, B6.out⟩
  have hg : ((n2 : Int) == 0) = false := by simp; omega
  have hgt : 0 < (n2 : Int) := by omega
  have hok : flOK xs a m = true := by
    rcases h : flOK xs a m with _ | _
    · have e := HOS.out
      rw [flV_no h] at e
      have e2 := HL.out
      rw [← e] at e2
      simp at e2
      omega
    · rfl
  obtain ⟨h12, hr, hasc, ha, hm⟩ := fl_in hok
  obtain ⟨ha0, ha1⟩ := inR_iff.1 ha
  obtain ⟨hm0, hm1⟩ := inR_iff.1 hm
  obtain ⟨M, rfl⟩ := Int.eq_ofNat_of_zero_le (show 0 ≤ m by omega)
  have hM1 : 1 ≤ M := by omega
  have hO : os = FL a M xs := by rw [← HOS.out]; simp [flV, hok]
  have hne : xs ≠ [] := by
    rintro rfl
    rw [FL_nil] at hO
    have e2 := HL.out
    rw [hO] at e2
    simp at e2
    omega
  have hn1 : 1 ≤ n1 := by have := HXL.out; have := List.length_pos_iff.2 hne; omega
  obtain ⟨y1, hy1⟩ : ∃ y1, n1 = y1 + 1 := ⟨n1 - 1, by omega⟩
  have wy1 : IntKind.i64.wrap ((n1 : Int) - 1) = (y1 : Int) := by rw [IntKind.wrap_i64]; omega
  have zy10 : (0 : Int) ≤ (y1 : Int) := by omega
  have zy11 : (y1 : Int) < (n1 : Int) := by omega
  have ey1 : n1 - 1 = y1 := by omega
  obtain ⟨tz, htz⟩ : ∃ v, xs.getD y1 0 = v := ⟨_, rfl⟩
  obtain ⟨b, off2, _, rfl, _, _⟩ := T1.out.at_ (k := 0) (by omega)
  have TZ : ∀ w', IS w' (some ⟨b, off2, none⟩) n1 c1 xs → w'.cell? ⟨b, off2 + y1, none⟩ = some (.int .i64 tz) := fun w' h => by
    obtain ⟨g', off', v, e, hv, hc⟩ := h.at_ (k := y1) (by omega)
    simp only [Option.some.injEq, Addr.mk.injEq, and_true] at e
    obtain ⟨rfl, rfl⟩ := e
    rw [hc, ← htz, getD_of hv]
  have HTZ := Lib.hid TZ
  have H12 := Lib.hid h12
  have HNE := Lib.hid hne
  by_cases hz : tz = 1000
  · have hz' : (tz == 1000) = true := by simp [hz]
    clear hO hne hok h12 hr hasc ha hm ey1 hy1 TZ htz hz
    go_wp2_with (fail)
    refine (spec_FlushTimes_any a _ w2 T1.out).mono ?_
    rintro e w3 ⟨A2_, n2_, c2_, rfl, ho, hb⟩
    rw [HOS.out] at ho
    have K2 := Lib.hid ho.is
    have J2 := Lib.hid (I1.out.below hb (Nat.le_refl _))
    have TJ := Lib.hid (T1.out.below hb (Nat.le_refl _))
    have B3 := Lib.hid (B2.out.trans (hb.mono B2.out.size))
    clear ho hb
    go_wp2_with (fail)
    refine (call_b (laws_equalInts_any w3 J2.out K2.out) (decide_eq_true rfl)).mono ?_
    rintro e w4 ⟨rfl, mm, h4⟩
    have B4 := Lib.hid (show Below w.heap.size w w4 by rw [h4]; exact below_drewN B3.out mm)
    replace I1 := Lib.hid (show IS w4 A2 n2 c2 os by rw [h4]; exact J2.out.drewN mm)
    replace T1 := Lib.hid (show IS w4 (some ⟨b, off2, none⟩) n1 c1 xs by rw [h4]; exact TJ.out.drewN mm)
    clear h4 J2 K2 TJ
    have tz2 := HTZ.out _ T1.out
    go_wp2_with (fail)
    refine (spec_FlushTimes_any a _ w4 T1.out).mono ?_
    rintro e w5 ⟨A4_, n4_, c4_, rfl, ho, hb⟩
    rw [HOS.out] at ho
    have K4 := Lib.hid ho.is
    have J4 := Lib.hid (I1.out.below hb (Nat.le_refl _))
    have TJ := Lib.hid (T1.out.below hb (Nat.le_refl _))
    have B5 := Lib.hid (B4.out.trans (hb.mono B4.out.size))
    clear ho hb
    go_wp2_with (fail)
    refine (call_b (laws_equalInts_any w5 J4.out K4.out) (decide_eq_true rfl)).mono ?_
    rintro e w6 ⟨rfl, mm, h4⟩
    have B6 := Lib.hid (show Below w.heap.size w w6 by rw [h4]; exact below_drewN B5.out mm)
    replace I1 := Lib.hid (show IS w6 A2 n2 c2 os by rw [h4]; exact J4.out.drewN mm)
    replace T1 := Lib.hid (show IS w6 (some ⟨b, off2, none⟩) n1 c1 xs by rw [h4]; exact TJ.out.drewN mm)
    clear h4 J4 K4 TJ
    go_wp2_with (fail)
    go_ret
    exact ⟨rfl, B6.out⟩
  have hz' : (tz == 1000) = false := by simp [hz]
  have hup : flV (upL1 xs) a (M : Int) = upL1 os := by
    have h2 := up_ok hok hne (by rw [HXL.out, ey1, htz]; exact hz)
    simp only [flV, h2, if_true]
    rw [hO]
    exact up_FL ha0 hM1 _ xs (Nat.le_refl _)
  have HUP := Lib.hid hup
  have HX1 : Hid (∀ k, k < n1 → 0 ≤ xs.getD k 0 ∧ xs.getD k 0 ≤ 1000) := Lib.hid fun k hk =>
    allR_at (k := k) (by have := HXL.out; rw [List.getElem?_eq_getElem (by omega), List.getD_eq_getElem?_getD, List.getElem?_eq_getElem (by omega)]; rfl) hr
  have HO1 : Hid (∀ k, k < n2 → 0 ≤ os.getD k 0 ∧ os.getD k 0 ≤ 1100) := Lib.hid fun k hk => by
    obtain ⟨p1, p2, p3, p4, p5⟩ := FL_props (age := a) (M := M) ha0 hM1 _ xs (Nat.le_refl _) hne hasc
    obtain ⟨d1, d2⟩ := due_bd (age := a) (M := M) hne ha0 hM1 hasc
    rw [← p2] at d1 d2
    rw [← hO] at p3 p4 p5 d1 d2
    have q1 := HX1.out 0 (by omega)
    have q2 := HX1.out (xs.length - 1) (by have := HXL.out; omega)
    have q3 := asc_lt p3 (i := 0) (j := k) (Nat.zero_le _) (by have := HL.out; omega)
    have q4 := asc_lt p3 (i := k) (j := os.length - 1) (by have := HL.out; omega) (by have := HL.out; omega)
    omega
  clear hO hne hok h12 hr hasc ha hm ey1 hy1 TZ htz hz hup
  go_wp2_with (fail)
  refine (spec_FlushTimes_any a _ w2 T1.out).mono ?_
  rintro e w3 ⟨A2_, n2_, c2_, rfl, ho, hb⟩
  rw [HOS.out] at ho
  have K2 := Lib.hid ho.is
  have J2 := Lib.hid (I1.out.below hb (Nat.le_refl _))
  have TJ := Lib.hid (T1.out.below hb (Nat.le_refl _))
  have B3 := Lib.hid (B2.out.trans (hb.mono B2.out.size))
  clear ho hb
  go_wp2_with (fail)
  refine (call_b (laws_equalInts_any w3 J2.out K2.out) (decide_eq_true rfl)).mono ?_
  rintro e w4 ⟨rfl, mm, h4⟩
  have B4 := Lib.hid (show Below w.heap.size w w4 by rw [h4]; exact below_drewN B3.out mm)
  replace I1 := Lib.hid (show IS w4 A2 n2 c2 os by rw [h4]; exact J2.out.drewN mm)
  replace T1 := Lib.hid (show IS w4 (some ⟨b, off2, none⟩) n1 c1 xs by rw [h4]; exact TJ.out.drewN mm)
  clear h4 J2 K2 TJ
  have tz2 := HTZ.out _ T1.out
  have HB4 := Lib.hid (below_new w4 (.cells #[] 3))
  have hOw : OW (w4.alloc (.cells #[] 3)) 3 w4.heap.size (some ⟨w4.heap.size, 0, none⟩) 0 0 [] := by simpa using OW.lit w4 3 w4.heap.size [] (Nat.le_refl _) (by simp)
  have HO4 := Lib.hid hOw
  clear hOw
  go_wp2_with (fail)
  go_loopw [7, 8] (fun l i wr => ∃ (k : Nat) (A3 : Option Addr) (c3 : Nat), k ≤ n1 ∧ l = .slice A3 k c3 ∧ i = .int .i64 (k : Int) ∧ Hid (OW wr 3 w4.heap.size A3 k c3 (upL1 (xs.take k))) ∧ Hid (Below w4.heap.size w4 wr)) (fun _ i _ => n1 - (intOf i).toNat)
  case atStart => exact ⟨0, _, 0, Nat.zero_le _, rfl, rfl, HO4, HB4⟩
  case round =>
    obtain ⟨k, A3, c3, hk, rfl, rfl, ho, hb⟩ := hrel
    clear HO4 HB4
    have hsz := hb.out.size
    by_cases hlt : k < n1
    · have hlt' : (k : Int) < (n1 : Int) := by omega
      obtain ⟨_, _, x, e0, hx, hc⟩ := (T1.out.below hb.out (Nat.le_refl _)).at_ hlt
      simp only [Option.some.injEq, Addr.mk.injEq, and_true] at e0
      obtain ⟨rfl, rfl⟩ := e0
      have hx1 := HX1.out k hlt
      rw [getD_of hx] at hx1
      obtain ⟨x0, x1⟩ := hx1
      have HN : Hid (upL1 (xs.take (k + 1)) = upL1 (xs.take k) ++ [x + 1]) := Lib.hid (by
        have hkl : k < xs.length := (List.getElem?_eq_some_iff.1 hx).1
        have e : xs[k] = x := (List.getElem?_eq_some_iff.1 hx).2
        rw [List.take_succ_eq_append_getElem hkl, e]
        simp [upL1])
      have O7 := Lib.hid (ho.out.alloc (.cells #[.int .i64 (x + 1)] 3))
      have SV : Hid (IS (wr.alloc (.cells #[.int .i64 (x + 1)] 3)) (some ⟨wr.heap.size, 0, none⟩) 1 1 [x + 1]) := Lib.hid (by simpa using (OW.lit wr 3 0 [x + 1] (by simp) (by simp)).is)
      have B7 := Lib.hid (hb.out.alloc hsz (.cells #[.int .i64 (x + 1)] 3))
      clear hx
      go_wp2_with (at_builtin; go_must (refine wpList_append_is _ rfl (.tmp 58) (.tmp 64) _ rfl w4.heap.size 3 infoInt Try.underlying22 _ _ _ _ rfl O7.out _ _ _ _ rfl SV.out (by omega) (by simp; omega) ?_); intro A8 c8 w8 hown8 hg8; have O8 := Lib.hid hown8; have B8 := Lib.hid (O7.out.below_grown hg8 B7.out (Nat.le_refl _) (by simp; omega)); clear hown8 hg8)
      go_roundw
      case rel => exact ⟨k + 1, A8, c8, by omega, rfl, by go_num, Lib.hid (by rw [HN.out]; exact O8.out), B8⟩
      case measure => simp [intOf]; omega
    · have hlt' : ¬ (k : Int) < (n1 : Int) := by omega
      obtain rfl : k = n1 := by omega
      have hoo := ho.out
      rw [List.take_of_length_le (by rw [HXL.out]; exact Nat.le_refl _)] at hoo
      have O5 := Lib.hid hoo
      have B5 := Lib.hid (B4.out.trans (hb.out.mono B4.out.size))
      have I5 := Lib.hid (I1.out.below hb.out (Nat.le_refl _))
      clear ho hb hoo
      go_wp2_with (fail)
      refine (impl_FlushTimes_any a (M : Int) wr O5.out.is).mono ?_
      rintro e w6 ⟨A6, n6, c6, rfl, ho, hb⟩
      rw [HUP.out] at ho
      have hn6 : n6 = n2 := by have h := ho.len; rw [up_len, HL.out] at h; exact h.symm
      subst hn6
      have L6 := Lib.hid ho.is
      have I6 := Lib.hid (I5.out.below hb (Nat.le_refl _))
      have B6 := Lib.hid (B5.out.trans (hb.mono B5.out.size))
      clear ho hb
      obtain ⟨g, off, _, rfl, _, _⟩ := I6.out.at_ (k := 0) (by omega)
      obtain ⟨g3, off3, _, rfl, _, _⟩ := L6.out.at_ (k := 0) (by omega)
      have OC : Hid (∀ k : Nat, k < n6 → w6.cell? ⟨g, off + k, none⟩ = some (.int .i64 (os.getD k 0))) := Lib.hid fun k hk => by
        obtain ⟨g', off', v, e, hv, hc⟩ := I6.out.at_ hk
        simp only [Option.some.injEq, Addr.mk.injEq, and_true] at e
        obtain ⟨rfl, rfl⟩ := e
        rw [hc, getD_of hv]
      have LC : Hid (∀ k : Nat, k < n6 → w6.cell? ⟨g3, off3 + k, none⟩ = some (.int .i64 (os.getD k 0 + 1))) := Lib.hid fun k hk => by
        obtain ⟨g', off', v, e, hv, hc⟩ := L6.out.at_ hk
        simp only [Option.some.injEq, Addr.mk.injEq, and_true] at e
        obtain ⟨rfl, rfl⟩ := e
        rw [hc, ← up_getD (by rw [HL.out]; exact hk), getD_of hv]
      go_wp2_with (fail)
      go_loopw [10] (fun i wq => ∃ j mm : Nat, j ≤ n6 ∧ i = .int .i64 (j : Int) ∧ wq = w6.drewN mm) (fun i _ => n6 - (intOf i).toNat)
      case atStart => exact ⟨0, 0, Nat.zero_le _, rfl, rfl⟩
      case round =>
        obtain ⟨j, mm, hj, rfl, rfl⟩ := hrel
        by_cases hjl : j < n6
        · have hjl' : (j : Int) < (n6 : Int) := by omega
          obtain ⟨x, hx⟩ : ∃ x, os.getD j 0 = x := ⟨_, rfl⟩
          have e1 := OC.out j hjl
          have e2 := LC.out j hjl
          have e3 := HO1.out j hjl
          rw [hx] at e1 e2 e3
          obtain ⟨e30, e31⟩ := e3
          have hge : ¬ (j : Int) ≥ (n6 : Int) := by omega
          have hge2 : ¬ n6 ≤ j := by omega
          have hge3 : decide (n6 ≤ j) = false := by simp; omega
          have z1 : (0 : Int) ≤ (j : Int) := by omega
          have w1' : IntKind.i64.wrap (x + 1) = x + 1 := by rw [IntKind.wrap_i64]; omega
          have hbn : (x + 1 != x + 1) = false := by simp
          clear hx
          go_wp2_with (fail)
          go_quiet (fail)
          go_wp2_with (fail)
          go_roundw
          case rel => exact ⟨j + 1, _, by omega, by go_num, rfl⟩
          case measure => simp [intOf]; omega
        · have hjl' : ¬ (j : Int) < (n6 : Int) := by omega
          go_wp2_with (fail)
          go_ret
          exact ⟨ret_bool (by simp), below_drewN B6.out mm⟩
end Go.Proofs.Ytdfhhjdefmogbaa
