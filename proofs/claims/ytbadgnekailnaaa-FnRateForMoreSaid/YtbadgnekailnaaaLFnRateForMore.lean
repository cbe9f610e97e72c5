/-
  The walk of FnRateForMore. (Its words were written by a program of my own.)
-/
import Derived.Test.YtbadgnekailnaaaDrawK
import Derived.Test.YtbadgnekailnaaaSb
import Derived.Test.YtbadgnekailnaaaSaN
import Derived.Deep.RegionHeld3
import Derived.Deep.DeepMust
import Derived.Deep.DeepCutAuto
namespace Go.Proofs.Ytbadgnekailnaaa
open Go.RowKit
-- CALL: W s0
set_option maxHeartbeats 8000000 in
theorem walk_FnRateForMore {A : Option Addr} {n c : Nat} {zs : List Int} (w : World) (h : BS w A n c zs) :
    Calls Try.prog 15 #[.slice A n c] w fun e w' => e = .returned (.bool true) ∧ Below w.heap.size w w' := by
  have H := Lib.hid h
  clear h
  rcases Nat.lt_or_ge 1048576 n with h1 | h1
  · have h1' : (1048576 : Int) < (n : Int) := by omega
    go_enter Try.func15, Try.ntmps15
    go_wp2_with (fail)
    go_ret
    exact ⟨rfl, Below.refl _ _⟩
  have h1' : ¬ (1048576 : Int) < (n : Int) := by omega
  go_enter Try.func15, Try.ntmps15
  go_wp2_with (fail)
  refine (spec_DrawRateFor_any w H.out h1).mono ?_
  rintro e w1 ⟨xs, A1, n1, c1, m, rfl, hn18, ⟨m0, m1⟩, i1, hbl⟩
  have T1 := Lib.hid i1
  have B1 := Lib.hid hbl
  have HXL := Lib.hid i1.len
  clear i1 hbl
  obtain ⟨v, hv⟩ : ∃ v, rfV xs m = v := ⟨_, rfl⟩
  have HV := Lib.hid hv
  clear hv
  rcases hok : (okK xs && inR m 0 16) with _ | _
  · have hv : v = -1 := by rw [← HV.out]; simp [rfV, hok]
    subst hv
    clear hok
    go_wp2_with (fail)
    refine (call_int (impl_RateFor_any m w1 T1.out) HV.out).mono ?_
    rintro e w2 ⟨rfl, hb⟩
    replace T1 := Lib.hid (T1.out.below hb (Nat.le_refl _))
    replace B1 := Lib.hid (B1.out.trans (hb.mono B1.out.size))
    clear hb
    go_wp2_with (fail)
    refine (call_int (spec_RateFor_any m w2 T1.out) HV.out).mono ?_
    rintro e w3 ⟨rfl, hb⟩
    replace T1 := Lib.hid (T1.out.below hb (Nat.le_refl _))
    replace B1 := Lib.hid (B1.out.trans (hb.mono B1.out.size))
    clear hb
    go_wp2_with (fail)
    refine (call_int (spec_RateFor_any m w3 T1.out) HV.out).mono ?_
    rintro e w4 ⟨rfl, hb⟩
    replace T1 := Lib.hid (T1.out.below hb (Nat.le_refl _))
    replace B1 := Lib.hid (B1.out.trans (hb.mono B1.out.size))
    clear hb
    go_wp2_with (fail)
    go_ret
    exact ⟨ret_bool (by first | rfl | (simp; done) | (simp; omega)), B1.out⟩
  obtain ⟨hk, hm⟩ : okK xs = true ∧ inR m 0 16 = true := by simpa using hok
  obtain ⟨M, rfl⟩ := Int.eq_ofNat_of_zero_le (inR_iff.1 hm).1
  have hM : M ≤ 16 := by have := (inR_iff.1 hm).2; omega
  have hvv : v = rfF xs M := by rw [← HV.out]; simp [rfV, hok]
  have HKK := Lib.hid hk
  clear hok hm
  rcases rf_cases xs M with ⟨e, _⟩ | ⟨j, hj, e, hle, hbf⟩
  · obtain rfl : v = -1 := hvv.trans e
    clear hvv e
    go_wp2_with (fail)
    refine (call_int (impl_RateFor_any (M : Int) w1 T1.out) HV.out).mono ?_
    rintro e w2 ⟨rfl, hb⟩
    replace T1 := Lib.hid (T1.out.below hb (Nat.le_refl _))
    replace B1 := Lib.hid (B1.out.trans (hb.mono B1.out.size))
    clear hb
    go_wp2_with (fail)
    refine (call_int (spec_RateFor_any (M : Int) w2 T1.out) HV.out).mono ?_
    rintro e w3 ⟨rfl, hb⟩
    replace T1 := Lib.hid (T1.out.below hb (Nat.le_refl _))
    replace B1 := Lib.hid (B1.out.trans (hb.mono B1.out.size))
    clear hb
    go_wp2_with (fail)
    refine (call_int (spec_RateFor_any (M : Int) w3 T1.out) HV.out).mono ?_
    rintro e w4 ⟨rfl, hb⟩
    replace T1 := Lib.hid (T1.out.below hb (Nat.le_refl _))
    replace B1 := Lib.hid (B1.out.trans (hb.mono B1.out.size))
    clear hb
    go_wp2_with (fail)
    go_ret
    exact ⟨ret_bool (by first | rfl | (simp; done) | (simp; omega)), B1.out⟩
  have hv2 : v = (2 : Int) ^ j := hvv.trans e
  obtain ⟨i, hi, e2⟩ := rf_more hj hle
  obtain ⟨p0, p1, p2⟩ := pow_bd hj hi
  obtain ⟨q, hq⟩ : ∃ q, rfF xs (M + 1) = q := ⟨_, rfl⟩
  have q1 : 1 ≤ q := by rw [← hq, e2]; exact p0
  have q2 : q ≤ v := by rw [← hq, e2, hv2]; exact p1
  have q3 : v ≤ 16 := by rw [hv2]; exact p2
  have g1 : ¬ v < 1 := by omega
  clear hvv e hv2 hle hbf e2 p0 p1 p2
  by_cases h16 : M = 16
  · have g2 : ((M : Int) == 16) = true := by simp; omega
    clear h16 hq
    go_wp2_with (fail)
    refine (call_int (impl_RateFor_any (M : Int) w1 T1.out) HV.out).mono ?_
    rintro e w2 ⟨rfl, hb⟩
    replace T1 := Lib.hid (T1.out.below hb (Nat.le_refl _))
    replace B1 := Lib.hid (B1.out.trans (hb.mono B1.out.size))
    clear hb
    go_wp2_with (fail)
    refine (call_int (spec_RateFor_any (M : Int) w2 T1.out) HV.out).mono ?_
    rintro e w3 ⟨rfl, hb⟩
    replace T1 := Lib.hid (T1.out.below hb (Nat.le_refl _))
    replace B1 := Lib.hid (B1.out.trans (hb.mono B1.out.size))
    clear hb
    go_wp2_with (fail)
    refine (call_int (spec_RateFor_any (M : Int) w3 T1.out) HV.out).mono ?_
    rintro e w4 ⟨rfl, hb⟩
    replace T1 := Lib.hid (T1.out.below hb (Nat.le_refl _))
    replace B1 := Lib.hid (B1.out.trans (hb.mono B1.out.size))
    clear hb
    go_wp2_with (fail)
    go_ret
    exact ⟨ret_bool (by first | rfl | (simp; done) | (simp; omega)), B1.out⟩
  have g2 : ((M : Int) == 16) = false := by simp; omega
  have HQ : Hid (rfV xs ((M : Int) + 1) = q) := Lib.hid (by
    have hm2 : inR ((M : Int) + 1) 0 16 = true := inR_t (by omega) (by omega)
    have e3 : ((M : Int) + 1).toNat = M + 1 := by omega
    simp only [rfV, HKK.out, hm2, Bool.and_self, if_true, e3, hq])
  clear h16 hq
  go_wp2_with (fail)
  refine (call_int (impl_RateFor_any (M : Int) w1 T1.out) HV.out).mono ?_
  rintro e w2 ⟨rfl, hb⟩
  replace T1 := Lib.hid (T1.out.below hb (Nat.le_refl _))
  replace B1 := Lib.hid (B1.out.trans (hb.mono B1.out.size))
  clear hb
  go_wp2_with (fail)
  refine (call_int (spec_RateFor_any (M : Int) w2 T1.out) HV.out).mono ?_
  rintro e w3 ⟨rfl, hb⟩
  replace T1 := Lib.hid (T1.out.below hb (Nat.le_refl _))
  replace B1 := Lib.hid (B1.out.trans (hb.mono B1.out.size))
  clear hb
  go_wp2_with (fail)
  refine (call_int (impl_RateFor_any ((M : Int) + 1) w3 T1.out) HQ.out).mono ?_
  rintro e w4 ⟨rfl, hb⟩
  replace T1 := Lib.hid (T1.out.below hb (Nat.le_refl _))
  replace B1 := Lib.hid (B1.out.trans (hb.mono B1.out.size))
  clear hb
  go_wp2_with (fail)
  go_ret
  exact ⟨ret_bool (by first | rfl | (simp; done) | (simp; omega)), B1.out⟩
end Go.Proofs.Ytbadgnekailnaaa
