/-
  The walk of FnBatchBytesOne. (Its words were written by a program of my own.)
-/
import Derived.Test.YtpodfjblojmkeaaDrawC
import Derived.Test.YtpodfjblojmkeaaCuP
import Derived.Deep.RegionHeld3
import Derived.Deep.DeepMust
import Derived.Deep.DeepCutAuto
namespace Go.Proofs.Ytpodfjblojmkeaa
open Go.RowKit
-- CALL: W s0
set_option maxHeartbeats 8000000 in
theorem walk_FnBatchBytesOne {A : Option Addr} {n c : Nat} {zs : List Int} (w : World) (h : BS w A n c zs) :
    Calls Try.prog 10 #[.slice A n c] w fun e w' => e = .returned (.bool true) ∧ Below w.heap.size w w' := by
  have H := Lib.hid h
  clear h
  rcases Nat.lt_or_ge 1048576 n with h1 | h1
  · have h1' : (1048576 : Int) < (n : Int) := by omega
    go_enter Try.func10, Try.ntmps10
    go_wp2_with (fail)
    go_ret
    exact ⟨rfl, Below.refl _ _⟩
  have h1' : ¬ (1048576 : Int) < (n : Int) := by omega
  go_enter Try.func10, Try.ntmps10
  go_wp2_with (fail)
  refine (spec_DrawBatchBytes_any w H.out h1).mono ?_
  rintro e w1 ⟨xs, A1, n1, c1, a, m, rfl, hn14, ⟨a0, a1⟩, ⟨m0, m1⟩, i1, hbl⟩
  have T1 := Lib.hid i1
  have B1 := Lib.hid hbl
  have HXL := Lib.hid i1.len
  clear i1 hbl
  obtain ⟨os, hos⟩ : ∃ os, bsV xs a m = os := ⟨_, rfl⟩
  have HOS := Lib.hid hos
  clear hos
  go_wp2_with (fail)
  refine (impl_BatchBytes_any a m w1 T1.out).mono ?_
  rintro e w2 ⟨A2, n2, c2, rfl, ho, hb⟩
  rw [HOS.out] at ho
  have hn7 : n2 ≤ 12 := by
    have h1 := ho.len
    have h2 := bsV_le xs a m
    rw [HOS.out] at h2
    omega
  have HL := Lib.hid ho.len
  have I1 := Lib.hid ho.is
  have B2 := Lib.hid (B1.out.trans (hb.mono B1.out.size))
  replace T1 := Lib.hid (T1.out.below hb (Nat.le_refl _))
  clear ho hb
  rcases Nat.lt_or_ge n2 1 with hs | hs
  · skip
    have hg : ((n2 : Int) == 0) = true := by simp; omega
    go_wp2_with (fail)
    refine (spec_BatchBytes_any a _ w2 T1.out).mono ?_
    rintro e w3 ⟨A2_, n2_, c2_, rfl, ho, hb⟩
    rw [HOS.out] at ho
    have K2 := Lib.hid ho.is
    have J2 := Lib.hid (I1.out.below hb (Nat.le_refl _))
    have TJ := Lib.hid (T1.out.below hb (Nat.le_refl _))
    have B3 := Lib.hid (B2.out.trans (hb.mono B2.out.size))
    clear ho hb
    go_wp2_with (fail)
    refine (call_b (laws_equalInts_any w3 J2.out K2.out) (decide_eq_true rfl)).mono ?_
    rintro e w4 ⟨rfl, mm, h4⟩
    have B4 := Lib.hid (show Below w.heap.size w w4 by rw [h4]; exact below_drewN B3.out mm)
    replace I1 := Lib.hid (show IS w4 A2 n2 c2 os by rw [h4]; exact J2.out.drewN mm)
    replace T1 := Lib.hid (show IS w4 A1 n1 c1 xs by rw [h4]; exact TJ.out.drewN mm)
    clear h4 J2 K2 TJ
    go_wp2_with (fail)
    refine (spec_BatchBytes_any a _ w4 T1.out).mono ?_
    rintro e w5 ⟨A4_, n4_, c4_, rfl, ho, hb⟩
    rw [HOS.out] at ho
    have K4 := Lib.hid ho.is
    have J4 := Lib.hid (I1.out.below hb (Nat.le_refl _))
    have TJ := Lib.hid (T1.out.below hb (Nat.le_refl _))
    have B5 := Lib.hid (B4.out.trans (hb.mono B4.out.size))
    clear ho hb
    go_wp2_with (fail)
    refine (call_b (laws_equalInts_any w5 J4.out K4.out) (decide_eq_true rfl)).mono ?_
    rintro e w6 ⟨rfl, mm, h4⟩
    have B6 := Lib.hid (show Below w.heap.size w w6 by rw [h4]; exact below_drewN B5.out mm)
    replace I1 := Lib.hid (show IS w6 A2 n2 c2 os by rw [h4]; exact J4.out.drewN mm)
    replace T1 := Lib.hid (show IS w6 A1 n1 c1 xs by rw [h4]; exact TJ.out.drewN mm)
    clear h4 J4 K4 TJ
    go_wp2_with (fail)
    go_ret
    exact ⟨rfl, B6.out⟩
  have hg : ((n2 : Int) == 0) = false := by simp; omega
  have hgt : 0 < (n2 : Int) := by omega
  go_wp2_with (fail)
  refine (spec_BatchBytes_any a _ w2 T1.out).mono ?_
  rintro e w3 ⟨A2_, n2_, c2_, rfl, ho, hb⟩
  rw [HOS.out] at ho
  have K2 := Lib.hid ho.is
  have J2 := Lib.hid (I1.out.below hb (Nat.le_refl _))
  have TJ := Lib.hid (T1.out.below hb (Nat.le_refl _))
  have B3 := Lib.hid (B2.out.trans (hb.mono B2.out.size))
  clear ho hb
  go_wp2_with (fail)
  refine (call_b (laws_equalInts_any w3 J2.out K2.out) (decide_eq_true rfl)).mono ?_
  rintro e w4 ⟨rfl, mm, h4⟩
  have B4 := Lib.hid (show Below w.heap.size w w4 by rw [h4]; exact below_drewN B3.out mm)
  replace I1 := Lib.hid (show IS w4 A2 n2 c2 os by rw [h4]; exact J2.out.drewN mm)
  replace T1 := Lib.hid (show IS w4 A1 n1 c1 xs by rw [h4]; exact TJ.out.drewN mm)
  clear h4 J2 K2 TJ
  have hok : cutOK xs a m = true := by
    rcases h : cutOK xs a m with _ | _
    · have e := HOS.out
      rw [bsV_no h] at e
      have e2 := HL.out
      rw [← e] at e2
      simp at e2
      omega
    · rfl
  obtain ⟨h12, hr, hbr, hmr⟩ := cut_in hok
  obtain ⟨hb0, hb1⟩ := inR_iff.1 hbr
  obtain ⟨hm0, hm1⟩ := inR_iff.1 hmr
  obtain ⟨M, rfl⟩ := Int.eq_ofNat_of_zero_le (show 0 ≤ m by omega)
  have hM1 : 1 ≤ M := by omega
  have hO : os = sumL2 (BB a M xs) := by rw [← HOS.out]; simp [bsV, bbV, hok]
  have hxl : xs.length = n1 := HXL.out
  have hn12 : n1 ≤ 12 := by omega
  have hok1 : cutOK xs a 1 = true := by
    have h3 : decide (xs.length ≤ 12) = true := by simp; omega
    simp only [cutOK, h3, hr, hbr, inR_t (show (1 : Int) ≤ 1 by omega) (show (1 : Int) ≤ 12 by omega), Bool.and_self]
  obtain ⟨o1, o2⟩ := bb_one hb0 hr
  have hv : bsV xs a 1 = xs := by
    have e : bsV xs a 1 = sumL2 (BB a 1 xs) := by simp [bsV, bbV, hok1]
    rw [e, o2]
  have HV := Lib.hid hv
  clear hok hok1 h12 hr hbr hmr hO o1 o2 hv hxl
  go_wp2_with (fail)
  refine (impl_BatchBytes_any a 1 w4 T1.out).mono ?_
  rintro e w5 ⟨A5, n5, c5, rfl, ho, hb⟩
  rw [HV.out] at ho
  have I5 := Lib.hid ho.is
  have T5 := Lib.hid (T1.out.below hb (Nat.le_refl _))
  have B5 := Lib.hid (B4.out.trans (hb.mono B4.out.size))
  clear ho hb
  go_wp2_with (fail)
  refine (call_b (laws_equalInts_any w5 I5.out T5.out) (decide_eq_true rfl)).mono ?_
  rintro e w6 ⟨rfl, mm, h4⟩
  have B6 := Lib.hid (show Below w.heap.size w w6 by rw [h4]; exact below_drewN B5.out mm)
  clear h4
  go_wp2_with (fail)
  go_ret
  exact ⟨rfl, B6.out⟩
end Go.Proofs.Ytpodfjblojmkeaa
