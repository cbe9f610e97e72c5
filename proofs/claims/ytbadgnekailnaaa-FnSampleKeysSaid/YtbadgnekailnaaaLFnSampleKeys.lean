/-
  The walk of FnSampleKeys. (Its words were written by a program of my own.)
-/
import Derived.Test.YtbadgnekailnaaaDrawK
import Derived.Test.YtbadgnekailnaaaSb
import Derived.Test.YtbadgnekailnaaaSaN
import Derived.Deep.RegionHeld3
import Derived.Deep.DeepMust
import Derived.Deep.DeepCutAuto
namespace Go.Proofs.Ytbadgnekailnaaa
open Go.RowKit
-- CALL: W s0
set_option maxHeartbeats 8000000 in
theorem walk_FnSampleKeys {A : Option Addr} {n c : Nat} {zs : List Int} (w : World) (h : BS w A n c zs) :
    Calls Try.prog 9 #[.slice A n c] w fun e w' => e = .returned (.bool true) ∧ Below w.heap.size w w' := by
  have H := Lib.hid h
  clear h
  rcases Nat.lt_or_ge 1048576 n with h1 | h1
  · have h1' : (1048576 : Int) < (n : Int) := by omega
    go_enter Try.func9, Try.ntmps9
    go_wp2_with (fail)
    go_ret
    exact ⟨rfl, Below.refl _ _⟩
  have h1' : ¬ (1048576 : Int) < (n : Int) := by omega
  go_enter Try.func9, Try.ntmps9
  go_wp2_with (fail)
  refine (spec_DrawSampleKeys_any w H.out h1).mono ?_
  rintro e w1 ⟨xs, A1, n1, c1, r, rfl, hn18, ⟨r0, r1⟩, i1, hbl⟩
  have T1 := Lib.hid i1
  have B1 := Lib.hid hbl
  have HXL := Lib.hid i1.len
  clear i1 hbl
  obtain ⟨os, hos⟩ : ∃ os, smV xs r = os := ⟨_, rfl⟩
  have HOS := Lib.hid hos
  clear hos
  go_wp2_with (fail)
  refine (impl_SampleKeys_any r w1 T1.out).mono ?_
  rintro e w2 ⟨A2, n2, c2, rfl, ho, hb⟩
  rw [HOS.out] at ho
  have hn7 : n2 ≤ 16 := by
    have h1 := ho.len
    have h2 := smV_le xs r
    rw [HOS.out] at h2
    omega
  have HL := Lib.hid ho.len
  have I1 := Lib.hid ho.is
  have B2 := Lib.hid (B1.out.trans (hb.mono B1.out.size))
  replace T1 := Lib.hid (T1.out.below hb (Nat.le_refl _))
  clear ho hb
  rcases Nat.lt_or_ge n2 1 with hs | hs
  · have hg : ((n2 : Int) == 0) = true := by simp; omega
    go_wp2_with (fail)
    refine (spec_SampleKeys_any r w2 T1.out).mono ?_
    rintro e w3 ⟨A2_, n2_, c2_, rfl, ho, hb⟩
    rw [HOS.out] at ho
    have K2 := Lib.hid ho.is
    have J2 := Lib.hid (I1.out.below hb (Nat.le_refl _))
    have TJ := Lib.hid (T1.out.below hb (Nat.le_refl _))
    have B3 := Lib.hid (B2.out.trans (hb.mono B2.out.size))
    clear ho hb
    go_wp2_with (fail)
    refine (call_b (laws_equalInts_any w3 J2.out K2.out) (decide_eq_true rfl)).mono ?_
    rintro e w4 ⟨rfl, mm, h4⟩
    have B4 := Lib.hid (show Below w.heap.size w w4 by rw [h4]; exact below_drewN B3.out mm)
    replace I1 := Lib.hid (show IS w4 A2 n2 c2 os by rw [h4]; exact J2.out.drewN mm)
    replace T1 := Lib.hid (show IS w4 A1 n1 c1 xs by rw [h4]; exact TJ.out.drewN mm)
    clear h4 J2 K2 TJ
    go_wp2_with (fail)
    refine (spec_SampleKeys_any r w4 T1.out).mono ?_
    rintro e w5 ⟨A4_, n4_, c4_, rfl, ho, hb⟩
    rw [HOS.out] at ho
    have K4 := Lib.hid ho.is
    have J4 := Lib.hid (I1.out.below hb (Nat.le_refl _))
    have TJ := Lib.hid (T1.out.below hb (Nat.le_refl _))
    have B5 := Lib.hid (B4.out.trans (hb.mono B4.out.size))
    clear ho hb
    go_wp2_with (fail)
    refine (call_b (laws_equalInts_any w5 J4.out K4.out) (decide_eq_true rfl)).mono ?_
    rintro e w6 ⟨rfl, mm, h4⟩
    have B6 := Lib.hid (show Below w.heap.size w w6 by rw [h4]; exact below_drewN B5.out mm)
    replace I1 := Lib.hid (show IS w6 A2 n2 c2 os by rw [h4]; exact J4.out.drewN mm)
    replace T1 := Lib.hid (show IS w6 A1 n1 c1 xs by rw [h4]; exact TJ.out.drewN mm)
    clear h4 J4 K4 TJ
    go_wp2_with (fail)
    go_ret
    exact ⟨ret_bool (by first | rfl | (simp; done) | (simp; omega)), B6.out⟩
  have hg : ((n2 : Int) == 0) = false := by simp; omega
  have hgt : 0 < (n2 : Int) := by omega
  go_wp2_with (fail)
  refine (spec_SampleKeys_any r w2 T1.out).mono ?_
  rintro e w3 ⟨A2_, n2_, c2_, rfl, ho, hb⟩
  rw [HOS.out] at ho
  have K2 := Lib.hid ho.is
  have J2 := Lib.hid (I1.out.below hb (Nat.le_refl _))
  have TJ := Lib.hid (T1.out.below hb (Nat.le_refl _))
  have B3 := Lib.hid (B2.out.trans (hb.mono B2.out.size))
  clear ho hb
  go_wp2_with (fail)
  refine (call_b (laws_equalInts_any w3 J2.out K2.out) (decide_eq_true rfl)).mono ?_
  rintro e w4 ⟨rfl, mm, h4⟩
  have B4 := Lib.hid (show Below w.heap.size w w4 by rw [h4]; exact below_drewN B3.out mm)
  replace I1 := Lib.hid (show IS w4 A2 n2 c2 os by rw [h4]; exact J2.out.drewN mm)
  replace T1 := Lib.hid (show IS w4 A1 n1 c1 xs by rw [h4]; exact TJ.out.drewN mm)
  clear h4 J2 K2 TJ
  have hok : smOK xs r = true := by
    rcases h : smOK xs r with _ | _
    · have e := HOS.out
      rw [smV_f h] at e
      have e2 := HL.out
      rw [← e] at e2
      simp at e2
      omega
    · rfl
  obtain ⟨hokk, hokr⟩ := smOK_in hok
  have hall := (okK_in hokk).2
  have HALL := Lib.hid hall
  have HRR := Lib.hid hokr
  have HO := Lib.hid ((smV_t hok).symm.trans HOS.out)
  have HID := Lib.hid (show smV os r = os by rw [← HO.out]; exact smV_idem hok)
  clear hok hokk hokr hall
  obtain ⟨g, off, _, rfl, _, _⟩ := I1.out.at_ (k := 0) (by omega)
  have OC : Hid (∀ j : Nat, j < n2 → w4.cell? ⟨g, off + j, none⟩ = some (.int .i64 (os.getD j 0))) := Lib.hid fun j hj => by
    obtain ⟨g', off', v, e, hv, hc⟩ := I1.out.at_ hj
    simp only [Option.some.injEq, Addr.mk.injEq, and_true] at e
    obtain ⟨rfl, rfl⟩ := e
    rw [hc, List.getD_eq_getElem?_getD, hv]
    rfl
  go_wp2_with (fail)
  go_loopw [6, 7] (fun q i wr => ∃ k j mm : Nat, k ≤ n1 ∧ j ≤ k ∧ i = .int .i64 (k : Int) ∧ q = .int .i64 (j : Int) ∧ Hid ((smL r (xs.take k)).length = j) ∧ wr = w4.drewN mm) (fun _ i _ => n1 - (intOf i).toNat)
  case atStart => exact ⟨0, 0, 0, Nat.zero_le _, Nat.le_refl _, rfl, rfl, Lib.hid (by simp [smL]), rfl⟩
  case round =>
    obtain ⟨k, j, mm, hk, hj, rfl, rfl, hc, rfl⟩ := hrel
    by_cases hlt : k < n1
    · have hlt' : (k : Int) < (n1 : Int) := by omega
      obtain ⟨b, off2, v, rfl, hx, hcv⟩ := T1.out.at_ hlt
      have HX := Lib.hid hx
      have HV := Lib.hid (allR_at hx HALL.out)
      clear hx
      rcases hkp : keepP r v with _ | _
      · have HK : Hid (keepV v r = false) := Lib.hid (by simp [keepV, hkp])
        have HN := Lib.hid (show (smL r (xs.take (k + 1))).length = j by rw [smL_no HX.out hkp, hc.out])
        go_wp2_with (fail)
        refine (call_b (impl_KeepsKey_any v r _) HK.out).mono ?_
        rintro e w' ⟨rfl, rfl⟩
        go_wp2_with (fail)
        go_roundw
        case rel => exact ⟨k + 1, j, _, by omega, by omega, by first | rfl | go_num, rfl, HN, rfl⟩
        case measure => simp [intOf]; omega
      · have HK : Hid (keepV v r = true) := Lib.hid (by simp [keepV, hkp, HRR.out, inR_t HV.out.1 HV.out.2])
        have HN := Lib.hid (show (smL r (xs.take (k + 1))).length = j + 1 by rw [smL_yes HX.out hkp, List.length_append, hc.out]; rfl)
        have ha := smL_at HX.out hkp
        rw [hc.out, HO.out] at ha
        have hjn : j < n2 := by
          have := (List.getElem?_eq_some_iff.1 ha).1
          have := HL.out
          omega
        have e1 := OC.out j hjn
        rw [List.getD_eq_getElem?_getD, ha] at e1
        simp only [Option.getD_some] at e1
        clear ha hkp
        have hge : ¬ (j : Int) ≥ (n2 : Int) := by omega
        have hge2 : ¬ n2 ≤ j := by omega
        have hge3 : decide (n2 ≤ j) = false := by simp; omega
        have hjl' : (j : Int) < (n2 : Int) := by omega
        have z1 : (0 : Int) ≤ (j : Int) := by omega
        have z2 : (0 : Int) ≤ (k : Int) := by omega
        have hbn : (v != v) = false := by simp
        go_wp2_with (fail)
        refine (call_b (impl_KeepsKey_any v r _) HK.out).mono ?_
        rintro e w' ⟨rfl, rfl⟩
        go_wp2_with (fail)
        go_quiet (fail)
        go_wp2_with (fail)
        go_roundw
        case rel => exact ⟨k + 1, j + 1, _, by omega, by omega, by first | rfl | go_num, by first | rfl | go_num, HN, rfl⟩
        case measure => simp [intOf]; omega
    · have hlt' : ¬ (k : Int) < (n1 : Int) := by omega
      obtain rfl : k = n1 := by omega
      have hcc := hc.out
      rw [List.take_of_length_le (by rw [HXL.out]; exact Nat.le_refl _), HO.out, HL.out] at hcc
      subst hcc
      have I5 := Lib.hid (I1.out.drewN mm)
      have B5 := Lib.hid (below_drewN B4.out mm)
      obtain ⟨w5, e5⟩ : ∃ w5, w4.drewN mm = w5 := ⟨_, rfl⟩
      rw [e5] at I5 B5 ⊢
      clear e5
      go_wp2_with (fail)
      refine (impl_SampleKeys_any r w5 I5.out).mono ?_
      rintro e w6 ⟨A6, n6, c6, rfl, ho, hb⟩
      rw [HID.out] at ho
      have J6 := Lib.hid ho.is
      have I6 := Lib.hid (I5.out.below hb (Nat.le_refl _))
      have B6 := Lib.hid (B5.out.trans (hb.mono B5.out.size))
      clear ho hb
      go_wp2_with (fail)
      refine (call_b (laws_equalInts_any w6 J6.out I6.out) (decide_eq_true rfl)).mono ?_
      rintro e w7 ⟨rfl, m7, h7⟩
      have B7 := Lib.hid (show Below w.heap.size w w7 by rw [h7]; exact below_drewN B6.out m7)
      clear h7
      go_wp2_with (fail)
      go_ret
      exact ⟨rfl, B7.out⟩
end Go.Proofs.Ytbadgnekailnaaa
