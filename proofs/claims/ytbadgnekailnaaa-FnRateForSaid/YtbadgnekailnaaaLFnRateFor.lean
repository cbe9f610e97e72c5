/-
  The walk of FnRateFor. (Its words were written by a program of my own.)
-/
import Derived.Test.YtbadgnekailnaaaDrawK
import Derived.Test.YtbadgnekailnaaaSb
import Derived.Test.YtbadgnekailnaaaSaN
import Derived.Deep.RegionHeld3
import Derived.Deep.DeepMust
import Derived.Deep.DeepCutAuto
namespace Go.Proofs.Ytbadgnekailnaaa
open Go.RowKit
-- CALL: W s0
set_option maxHeartbeats 8000000 in
theorem walk_FnRateFor {A : Option Addr} {n c : Nat} {zs : List Int} (w : World) (h : BS w A n c zs) :
    Calls Try.prog 14 #[.slice A n c] w fun e w' => e = .returned (.bool true) ∧ Below w.heap.size w w' := by
  have H := Lib.hid h
  clear h
  rcases Nat.lt_or_ge 1048576 n with h1 | h1
  · have h1' : (1048576 : Int) < (n : Int) := by omega
    go_enter Try.func14, Try.ntmps14
    go_wp2_with (fail)
    go_ret
    exact ⟨rfl, Below.refl _ _⟩
  have h1' : ¬ (1048576 : Int) < (n : Int) := by omega
  go_enter Try.func14, Try.ntmps14
  go_wp2_with (fail)
  refine (spec_DrawRateFor_any w H.out h1).mono ?_
  rintro e w1 ⟨xs, A1, n1, c1, m, rfl, hn18, ⟨m0, m1⟩, i1, hbl⟩
  have T1 := Lib.hid i1
  have B1 := Lib.hid hbl
  have HXL := Lib.hid i1.len
  clear i1 hbl
  obtain ⟨v, hv⟩ : ∃ v, rfV xs m = v := ⟨_, rfl⟩
  have HV := Lib.hid hv
  clear hv
  rcases hok : (okK xs && inR m 0 16) with _ | _
  · have hv : v = -1 := by rw [← HV.out]; simp [rfV, hok]
    subst hv
    clear hok
    go_wp2_with (fail)
    refine (call_int (impl_RateFor_any m w1 T1.out) HV.out).mono ?_
    rintro e w2 ⟨rfl, hb⟩
    replace T1 := Lib.hid (T1.out.below hb (Nat.le_refl _))
    replace B1 := Lib.hid (B1.out.trans (hb.mono B1.out.size))
    clear hb
    go_wp2_with (fail)
    refine (call_int (spec_RateFor_any m w2 T1.out) HV.out).mono ?_
    rintro e w3 ⟨rfl, hb⟩
    replace T1 := Lib.hid (T1.out.below hb (Nat.le_refl _))
    replace B1 := Lib.hid (B1.out.trans (hb.mono B1.out.size))
    clear hb
    go_wp2_with (fail)
    refine (call_int (spec_RateFor_any m w3 T1.out) HV.out).mono ?_
    rintro e w4 ⟨rfl, hb⟩
    replace T1 := Lib.hid (T1.out.below hb (Nat.le_refl _))
    replace B1 := Lib.hid (B1.out.trans (hb.mono B1.out.size))
    clear hb
    go_wp2_with (fail)
    go_ret
    exact ⟨ret_bool (by first | rfl | (simp; done) | (simp; omega)), B1.out⟩
  obtain ⟨hk, hm⟩ : okK xs = true ∧ inR m 0 16 = true := by simpa using hok
  obtain ⟨M, rfl⟩ := Int.eq_ofNat_of_zero_le (inR_iff.1 hm).1
  have hM : M ≤ 16 := by have := (inR_iff.1 hm).2; omega
  have hvv : v = rfF xs M := by rw [← HV.out]; simp [rfV, hok]
  have HKK := Lib.hid hk
  clear hok hm
  rcases rf_cases xs M with ⟨e, _⟩ | ⟨j, hj, e, hle, hbf⟩
  · obtain rfl : v = -1 := hvv.trans e
    clear hvv e
    go_wp2_with (fail)
    refine (call_int (impl_RateFor_any (M : Int) w1 T1.out) HV.out).mono ?_
    rintro e w2 ⟨rfl, hb⟩
    replace T1 := Lib.hid (T1.out.below hb (Nat.le_refl _))
    replace B1 := Lib.hid (B1.out.trans (hb.mono B1.out.size))
    clear hb
    go_wp2_with (fail)
    refine (call_int (spec_RateFor_any (M : Int) w2 T1.out) HV.out).mono ?_
    rintro e w3 ⟨rfl, hb⟩
    replace T1 := Lib.hid (T1.out.below hb (Nat.le_refl _))
    replace B1 := Lib.hid (B1.out.trans (hb.mono B1.out.size))
    clear hb
    go_wp2_with (fail)
    refine (call_int (spec_RateFor_any (M : Int) w3 T1.out) HV.out).mono ?_
    rintro e w4 ⟨rfl, hb⟩
    replace T1 := Lib.hid (T1.out.below hb (Nat.le_refl _))
    replace B1 := Lib.hid (B1.out.trans (hb.mono B1.out.size))
    clear hb
    go_wp2_with (fail)
    go_ret
    exact ⟨ret_bool (by first | rfl | (simp; done) | (simp; omega)), B1.out⟩
  have hv2 : v = (2 : Int) ^ j := hvv.trans e
  clear hvv e
  have HLE := Lib.hid hle
  have HBF := Lib.hid hbf
  clear hle hbf
  obtain rfl | rfl | rfl | rfl | rfl : j = 0 ∨ j = 1 ∨ j = 2 ∨ j = 3 ∨ j = 4 := by omega
  · obtain rfl : v = 1 := hv2
    have hin : smOK xs 1 = true := by simp only [smOK, HKK.out, Bool.true_and]; decide
    obtain ⟨x0, hx⟩ : ∃ x0, (smV xs 1).length = x0 := ⟨_, rfl⟩
    have HS := Lib.hid hx
    have hxM : x0 ≤ M := by rw [← hx, smV_t hin]; exact HLE.out
    have hxM' : (x0 : Int) ≤ (M : Int) := by omega
    clear hx hin hxM
    go_wp2_with (fail)
    refine (call_int (impl_RateFor_any (M : Int) w1 T1.out) HV.out).mono ?_
    rintro e w2 ⟨rfl, hb⟩
    replace T1 := Lib.hid (T1.out.below hb (Nat.le_refl _))
    replace B1 := Lib.hid (B1.out.trans (hb.mono B1.out.size))
    clear hb
    go_wp2_with (fail)
    refine (call_int (spec_RateFor_any (M : Int) w2 T1.out) HV.out).mono ?_
    rintro e w3 ⟨rfl, hb⟩
    replace T1 := Lib.hid (T1.out.below hb (Nat.le_refl _))
    replace B1 := Lib.hid (B1.out.trans (hb.mono B1.out.size))
    clear hb
    go_wp2_with (fail)
    refine (impl_SampleKeys_any 1 w3 T1.out).mono ?_
    rintro e w4 ⟨Aq, nq, cq, rfl, ho, hb⟩
    have x : nq = x0 := by have h1 := ho.len; have h2 := HS.out; omega
    subst x
    replace T1 := Lib.hid (T1.out.below hb (Nat.le_refl _))
    replace B1 := Lib.hid (B1.out.trans (hb.mono B1.out.size))
    clear ho hb
    go_wp2_with (fail)
    go_ret
    exact ⟨ret_bool (by first | rfl | (simp; done) | (simp; omega)), B1.out⟩
  · obtain rfl : v = 2 := hv2
    have hin : smOK xs 2 = true := by simp only [smOK, HKK.out, Bool.true_and]; decide
    obtain ⟨x0, hx⟩ : ∃ x0, (smV xs 2).length = x0 := ⟨_, rfl⟩
    have HS := Lib.hid hx
    have hxM : x0 ≤ M := by rw [← hx, smV_t hin]; exact HLE.out
    have hxM' : (x0 : Int) ≤ (M : Int) := by omega
    clear hx hin hxM
    have hin : smOK xs 1 = true := by simp only [smOK, HKK.out, Bool.true_and]; decide
    obtain ⟨y0, hy⟩ : ∃ y0, (smV xs 1).length = y0 := ⟨_, rfl⟩
    have HS2 := Lib.hid hy
    have hyM : M < y0 := by rw [← hy, smV_t hin]; exact HBF.out 0 (by omega)
    have hyM' : (M : Int) < (y0 : Int) := by omega
    clear hy hin hyM
    go_wp2_with (fail)
    refine (call_int (impl_RateFor_any (M : Int) w1 T1.out) HV.out).mono ?_
    rintro e w2 ⟨rfl, hb⟩
    replace T1 := Lib.hid (T1.out.below hb (Nat.le_refl _))
    replace B1 := Lib.hid (B1.out.trans (hb.mono B1.out.size))
    clear hb
    go_wp2_with (fail)
    refine (call_int (spec_RateFor_any (M : Int) w2 T1.out) HV.out).mono ?_
    rintro e w3 ⟨rfl, hb⟩
    replace T1 := Lib.hid (T1.out.below hb (Nat.le_refl _))
    replace B1 := Lib.hid (B1.out.trans (hb.mono B1.out.size))
    clear hb
    go_wp2_with (fail)
    refine (impl_SampleKeys_any 2 w3 T1.out).mono ?_
    rintro e w4 ⟨Aq, nq, cq, rfl, ho, hb⟩
    have x : nq = x0 := by have h1 := ho.len; have h2 := HS.out; omega
    subst x
    replace T1 := Lib.hid (T1.out.below hb (Nat.le_refl _))
    replace B1 := Lib.hid (B1.out.trans (hb.mono B1.out.size))
    clear ho hb
    go_wp2_with (fail)
    refine (impl_SampleKeys_any 1 w4 T1.out).mono ?_
    rintro e w5 ⟨Aq, nq, cq, rfl, ho, hb⟩
    have y : nq = y0 := by have h1 := ho.len; have h2 := HS2.out; omega
    subst y
    replace T1 := Lib.hid (T1.out.below hb (Nat.le_refl _))
    replace B1 := Lib.hid (B1.out.trans (hb.mono B1.out.size))
    clear ho hb
    go_wp2_with (fail)
    go_ret
    exact ⟨ret_bool (by first | rfl | (simp; done) | (simp; omega)), B1.out⟩
  · obtain rfl : v = 4 := hv2
    have hin : smOK xs 4 = true := by simp only [smOK, HKK.out, Bool.true_and]; decide
    obtain ⟨x0, hx⟩ : ∃ x0, (smV xs 4).length = x0 := ⟨_, rfl⟩
    have HS := Lib.hid hx
    have hxM : x0 ≤ M := by rw [← hx, smV_t hin]; exact HLE.out
    have hxM' : (x0 : Int) ≤ (M : Int) := by omega
    clear hx hin hxM
    have hin : smOK xs 2 = true := by simp only [smOK, HKK.out, Bool.true_and]; decide
    obtain ⟨y0, hy⟩ : ∃ y0, (smV xs 2).length = y0 := ⟨_, rfl⟩
    have HS2 := Lib.hid hy
    have hyM : M < y0 := by rw [← hy, smV_t hin]; exact HBF.out 1 (by omega)
    have hyM' : (M : Int) < (y0 : Int) := by omega
    clear hy hin hyM
    go_wp2_with (fail)
    refine (call_int (impl_RateFor_any (M : Int) w1 T1.out) HV.out).mono ?_
    rintro e w2 ⟨rfl, hb⟩
    replace T1 := Lib.hid (T1.out.below hb (Nat.le_refl _))
    replace B1 := Lib.hid (B1.out.trans (hb.mono B1.out.size))
    clear hb
    go_wp2_with (fail)
    refine (call_int (spec_RateFor_any (M : Int) w2 T1.out) HV.out).mono ?_
    rintro e w3 ⟨rfl, hb⟩
    replace T1 := Lib.hid (T1.out.below hb (Nat.le_refl _))
    replace B1 := Lib.hid (B1.out.trans (hb.mono B1.out.size))
    clear hb
    go_wp2_with (fail)
    refine (impl_SampleKeys_any 4 w3 T1.out).mono ?_
    rintro e w4 ⟨Aq, nq, cq, rfl, ho, hb⟩
    have x : nq = x0 := by have h1 := ho.len; have h2 := HS.out; omega
    subst x
    replace T1 := Lib.hid (T1.out.below hb (Nat.le_refl _))
    replace B1 := Lib.hid (B1.out.trans (hb.mono B1.out.size))
    clear ho hb
    go_wp2_with (fail)
    refine (impl_SampleKeys_any 2 w4 T1.out).mono ?_
    rintro e w5 ⟨Aq, nq, cq, rfl, ho, hb⟩
    have y : nq = y0 := by have h1 := ho.len; have h2 := HS2.out; omega
    subst y
    replace T1 := Lib.hid (T1.out.below hb (Nat.le_refl _))
    replace B1 := Lib.hid (B1.out.trans (hb.mono B1.out.size))
    clear ho hb
    go_wp2_with (fail)
    go_ret
    exact ⟨ret_bool (by first | rfl | (simp; done) | (simp; omega)), B1.out⟩
  · obtain rfl : v = 8 := hv2
    have hin : smOK xs 8 = true := by simp only [smOK, HKK.out, Bool.true_and]; decide
    obtain ⟨x0, hx⟩ : ∃ x0, (smV xs 8).length = x0 := ⟨_, rfl⟩
    have HS := Lib.hid hx
    have hxM : x0 ≤ M := by rw [← hx, smV_t hin]; exact HLE.out
    have hxM' : (x0 : Int) ≤ (M : Int) := by omega
    clear hx hin hxM
    have hin : smOK xs 4 = true := by simp only [smOK, HKK.out, Bool.true_and]; decide
    obtain ⟨y0, hy⟩ : ∃ y0, (smV xs 4).length = y0 := ⟨_, rfl⟩
    have HS2 := Lib.hid hy
    have hyM : M < y0 := by rw [← hy, smV_t hin]; exact HBF.out 2 (by omega)
    have hyM' : (M : Int) < (y0 : Int) := by omega
    clear hy hin hyM
    go_wp2_with (fail)
    refine (call_int (impl_RateFor_any (M : Int) w1 T1.out) HV.out).mono ?_
    rintro e w2 ⟨rfl, hb⟩
    replace T1 := Lib.hid (T1.out.below hb (Nat.le_refl _))
    replace B1 := Lib.hid (B1.out.trans (hb.mono B1.out.size))
    clear hb
    go_wp2_with (fail)
    refine (call_int (spec_RateFor_any (M : Int) w2 T1.out) HV.out).mono ?_
    rintro e w3 ⟨rfl, hb⟩
    replace T1 := Lib.hid (T1.out.below hb (Nat.le_refl _))
    replace B1 := Lib.hid (B1.out.trans (hb.mono B1.out.size))
    clear hb
    go_wp2_with (fail)
    refine (impl_SampleKeys_any 8 w3 T1.out).mono ?_
    rintro e w4 ⟨Aq, nq, cq, rfl, ho, hb⟩
    have x : nq = x0 := by have h1 := ho.len; have h2 := HS.out; omega
    subst x
    replace T1 := Lib.hid (T1.out.below hb (Nat.le_refl _))
    replace B1 := Lib.hid (B1.out.trans (hb.mono B1.out.size))
    clear ho hb
    go_wp2_with (fail)
    refine (impl_SampleKeys_any 4 w4 T1.out).mono ?_
    rintro e w5 ⟨Aq, nq, cq, rfl, ho, hb⟩
    have y : nq = y0 := by have h1 := ho.len; have h2 := HS2.out; omega
    subst y
    replace T1 := Lib.hid (T1.out.below hb (Nat.le_refl _))
    replace B1 := Lib.hid (B1.out.trans (hb.mono B1.out.size))
    clear ho hb
    go_wp2_with (fail)
    go_ret
    exact ⟨ret_bool (by first | rfl | (simp; done) | (simp; omega)), B1.out⟩
  · obtain rfl : v = 16 := hv2
    have hin : smOK xs 16 = true := by simp only [smOK, HKK.out, Bool.true_and]; decide
    obtain ⟨x0, hx⟩ : ∃ x0, (smV xs 16).length = x0 := ⟨_, rfl⟩
    have HS := Lib.hid hx
    have hxM : x0 ≤ M := by rw [← hx, smV_t hin]; exact HLE.out
    have hxM' : (x0 : Int) ≤ (M : Int) := by omega
    clear hx hin hxM
    have hin : smOK xs 8 = true := by simp only [smOK, HKK.out, Bool.true_and]; decide
    obtain ⟨y0, hy⟩ : ∃ y0, (smV xs 8).length = y0 := ⟨_, rfl⟩
    have HS2 := Lib.hid hy
    have hyM : M < y0 := by rw [← hy, smV_t hin]; exact HBF.out 3 (by omega)
    have hyM' : (M : Int) < (y0 : Int) := by omega
    clear hy hin hyM
    go_wp2_with (fail)
    refine (call_int (impl_RateFor_any (M : Int) w1 T1.out) HV.out).mono ?_
    rintro e w2 ⟨rfl, hb⟩
    replace T1 := Lib.hid (T1.out.below hb (Nat.le_refl _))
    replace B1 := Lib.hid (B1.out.trans (hb.mono B1.out.size))
    clear hb
    go_wp2_with (fail)
    refine (call_int (spec_RateFor_any (M : Int) w2 T1.out) HV.out).mono ?_
    rintro e w3 ⟨rfl, hb⟩
    replace T1 := Lib.hid (T1.out.below hb (Nat.le_refl _))
    replace B1 := Lib.hid (B1.out.trans (hb.mono B1.out.size))
    clear hb
    go_wp2_with (fail)
    refine (impl_SampleKeys_any 16 w3 T1.out).mono ?_
    rintro e w4 ⟨Aq, nq, cq, rfl, ho, hb⟩
    have x : nq = x0 := by have h1 := ho.len; have h2 := HS.out; omega
    subst x
    replace T1 := Lib.hid (T1.out.below hb (Nat.le_refl _))
    replace B1 := Lib.hid (B1.out.trans (hb.mono B1.out.size))
    clear ho hb
    go_wp2_with (fail)
    refine (impl_SampleKeys_any 8 w4 T1.out).mono ?_
    rintro e w5 ⟨Aq, nq, cq, rfl, ho, hb⟩
    have y : nq = y0 := by have h1 := ho.len; have h2 := HS2.out; omega
    subst y
    replace T1 := Lib.hid (T1.out.below hb (Nat.le_refl _))
    replace B1 := Lib.hid (B1.out.trans (hb.mono B1.out.size))
    clear ho hb
    go_wp2_with (fail)
    go_ret
    exact ⟨ret_bool (by first | rfl | (simp; done) | (simp; omega)), B1.out⟩
end Go.Proofs.Ytbadgnekailnaaa
