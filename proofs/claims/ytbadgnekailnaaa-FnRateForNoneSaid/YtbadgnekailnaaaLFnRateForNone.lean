/-
  The walk of FnRateForNone. (Its words were written by a program of my own.)
-/
import Derived.Test.YtbadgnekailnaaaDrawK
import Derived.Test.YtbadgnekailnaaaSb
import Derived.Test.YtbadgnekailnaaaSaN
import Derived.Deep.RegionHeld3
import Derived.Deep.DeepMust
import Derived.Deep.DeepCutAuto
namespace Go.Proofs.Ytbadgnekailnaaa
open Go.RowKit
-- CALL: W s0
set_option maxHeartbeats 8000000 in
theorem walk_FnRateForNone {A : Option Addr} {n c : Nat} {zs : List Int} (w : World) (h : BS w A n c zs) :
    Calls Try.prog 16 #[.slice A n c] w fun e w' => e = .returned (.bool true) ∧ Below w.heap.size w w' := by
  have H := Lib.hid h
  clear h
  rcases Nat.lt_or_ge 1048576 n with h1 | h1
  · have h1' : (1048576 : Int) < (n : Int) := by omega
    go_enter Try.func16, Try.ntmps16
    go_wp2_with (fail)
    go_ret
    exact ⟨rfl, Below.refl _ _⟩
  have h1' : ¬ (1048576 : Int) < (n : Int) := by omega
  go_enter Try.func16, Try.ntmps16
  go_wp2_with (fail)
  refine (spec_DrawRateFor_any w H.out h1).mono ?_
  rintro e w1 ⟨xs, A1, n1, c1, m, rfl, hn18, ⟨m0, m1⟩, i1, hbl⟩
  have T1 := Lib.hid i1
  have B1 := Lib.hid hbl
  have HXL := Lib.hid i1.len
  clear i1 hbl
  obtain ⟨v, hv⟩ : ∃ v, rfV xs m = v := ⟨_, rfl⟩
  have HV := Lib.hid hv
  clear hv
  have hv6 : v = -1 ∨ v = 1 ∨ v = 2 ∨ v = 4 ∨ v = 8 ∨ v = 16 := by
    rw [← HV.out]
    unfold rfV
    split
    · rcases rf_cases xs m.toNat with ⟨e, _⟩ | ⟨j, hj, e, _⟩
      · exact .inl e
      · rw [e]
        obtain rfl | rfl | rfl | rfl | rfl : j = 0 ∨ j = 1 ∨ j = 2 ∨ j = 3 ∨ j = 4 := by omega
        all_goals simp
    · exact .inl rfl
  rcases hok : okK xs with _ | _
  · have hne : 0 < n1 := by
      rcases Nat.eq_zero_or_pos n1 with h0 | h0
      · have h2 : xs = [] := List.eq_nil_of_length_eq_zero (by rw [HXL.out, h0])
        rw [h2] at hok
        simp [okK, allR] at hok
      · exact h0
    have hx0 : (0 : Nat) = 0 := rfl
    obtain ⟨x0, hx⟩ : ∃ x0, (smV xs 1).length = x0 := ⟨_, rfl⟩
    have HS := Lib.hid hx
    have hxz : x0 = 0 := by rw [← hx, smV_one_no hok]; rfl
    have g1 : ((x0 : Int) != (n1 : Int)) = true := by simp; omega
    clear hok hx hx0 hv6
    go_wp2_with (fail)
    refine (call_int (impl_RateFor_any m w1 T1.out) HV.out).mono ?_
    rintro e w2 ⟨rfl, hb⟩
    replace T1 := Lib.hid (T1.out.below hb (Nat.le_refl _))
    replace B1 := Lib.hid (B1.out.trans (hb.mono B1.out.size))
    clear hb
    go_wp2_with (fail)
    refine (call_int (spec_RateFor_any m w2 T1.out) HV.out).mono ?_
    rintro e w3 ⟨rfl, hb⟩
    replace T1 := Lib.hid (T1.out.below hb (Nat.le_refl _))
    replace B1 := Lib.hid (B1.out.trans (hb.mono B1.out.size))
    clear hb
    go_wp2_with (fail)
    refine (impl_SampleKeys_any 1 w3 T1.out).mono ?_
    rintro e w4 ⟨Aq, nq, cq, rfl, ho, hb⟩
    have x : nq = x0 := by have h1 := ho.len; have h2 := HS.out; omega
    subst x
    replace T1 := Lib.hid (T1.out.below hb (Nat.le_refl _))
    replace B1 := Lib.hid (B1.out.trans (hb.mono B1.out.size))
    clear ho hb
    go_wp2_with (fail)
    refine (call_int (spec_RateFor_any m w4 T1.out) HV.out).mono ?_
    rintro e w5 ⟨rfl, hb⟩
    replace T1 := Lib.hid (T1.out.below hb (Nat.le_refl _))
    replace B1 := Lib.hid (B1.out.trans (hb.mono B1.out.size))
    clear hb
    go_wp2_with (fail)
    go_ret
    exact ⟨ret_bool (by first | rfl | (simp; done) | (simp; omega)), B1.out⟩
  obtain ⟨x0, hx⟩ : ∃ x0, (smV xs 1).length = x0 := ⟨_, rfl⟩
  have HS := Lib.hid hx
  have hxz : x0 = n1 := by rw [← hx, smV_one hok, HXL.out]
  have g1 : ((x0 : Int) != (n1 : Int)) = false := by simp; omega
  have h16 := (okK_in hok).1
  rw [HXL.out] at h16
  have HQ : Hid (rfV xs (n1 : Int) = 1) := Lib.hid (by
    have hm2 : inR (n1 : Int) 0 16 = true := inR_t (by omega) (by omega)
    have e3 : rfF xs n1 = 1 := by have := rf_all xs; rwa [HXL.out] at this
    simp only [rfV, hok, hm2, Bool.and_self, if_true, Int.toNat_natCast, e3])
  clear hok hx
  by_cases h0 : n1 = 0
  · have g2 : ((n1 : Int) == 0) = true := by simp; omega
    clear h0 hv6
    go_wp2_with (fail)
    refine (call_int (impl_RateFor_any m w1 T1.out) HV.out).mono ?_
    rintro e w2 ⟨rfl, hb⟩
    replace T1 := Lib.hid (T1.out.below hb (Nat.le_refl _))
    replace B1 := Lib.hid (B1.out.trans (hb.mono B1.out.size))
    clear hb
    go_wp2_with (fail)
    refine (call_int (spec_RateFor_any m w2 T1.out) HV.out).mono ?_
    rintro e w3 ⟨rfl, hb⟩
    replace T1 := Lib.hid (T1.out.below hb (Nat.le_refl _))
    replace B1 := Lib.hid (B1.out.trans (hb.mono B1.out.size))
    clear hb
    go_wp2_with (fail)
    refine (impl_SampleKeys_any 1 w3 T1.out).mono ?_
    rintro e w4 ⟨Aq, nq, cq, rfl, ho, hb⟩
    have x : nq = x0 := by have h1 := ho.len; have h2 := HS.out; omega
    subst x
    replace T1 := Lib.hid (T1.out.below hb (Nat.le_refl _))
    replace B1 := Lib.hid (B1.out.trans (hb.mono B1.out.size))
    clear ho hb
    go_wp2_with (fail)
    refine (call_int (spec_RateFor_any m w4 T1.out) HV.out).mono ?_
    rintro e w5 ⟨rfl, hb⟩
    replace T1 := Lib.hid (T1.out.below hb (Nat.le_refl _))
    replace B1 := Lib.hid (B1.out.trans (hb.mono B1.out.size))
    clear hb
    go_wp2_with (fail)
    go_ret
    exact ⟨ret_bool (by first | rfl | (simp; done) | (simp; omega)), B1.out⟩
  have g2 : ((n1 : Int) == 0) = false := by simp; omega
  clear h0
  rcases hv6 with rfl | rfl | rfl | rfl | rfl | rfl
  · skip
    go_wp2_with (fail)
    refine (call_int (impl_RateFor_any m w1 T1.out) HV.out).mono ?_
    rintro e w2 ⟨rfl, hb⟩
    replace T1 := Lib.hid (T1.out.below hb (Nat.le_refl _))
    replace B1 := Lib.hid (B1.out.trans (hb.mono B1.out.size))
    clear hb
    go_wp2_with (fail)
    refine (call_int (spec_RateFor_any m w2 T1.out) HV.out).mono ?_
    rintro e w3 ⟨rfl, hb⟩
    replace T1 := Lib.hid (T1.out.below hb (Nat.le_refl _))
    replace B1 := Lib.hid (B1.out.trans (hb.mono B1.out.size))
    clear hb
    go_wp2_with (fail)
    refine (impl_SampleKeys_any 1 w3 T1.out).mono ?_
    rintro e w4 ⟨Aq, nq, cq, rfl, ho, hb⟩
    have x : nq = x0 := by have h1 := ho.len; have h2 := HS.out; omega
    subst x
    replace T1 := Lib.hid (T1.out.below hb (Nat.le_refl _))
    replace B1 := Lib.hid (B1.out.trans (hb.mono B1.out.size))
    clear ho hb
    go_wp2_with (fail)
    refine (call_int (impl_RateFor_any (n1 : Int) w4 T1.out) HQ.out).mono ?_
    rintro e w5 ⟨rfl, hb⟩
    replace T1 := Lib.hid (T1.out.below hb (Nat.le_refl _))
    replace B1 := Lib.hid (B1.out.trans (hb.mono B1.out.size))
    clear hb
    go_wp2_with (fail)
    go_ret
    exact ⟨ret_bool (by first | rfl | (simp; done) | (simp; omega)), B1.out⟩
  · skip
    go_wp2_with (fail)
    refine (call_int (impl_RateFor_any m w1 T1.out) HV.out).mono ?_
    rintro e w2 ⟨rfl, hb⟩
    replace T1 := Lib.hid (T1.out.below hb (Nat.le_refl _))
    replace B1 := Lib.hid (B1.out.trans (hb.mono B1.out.size))
    clear hb
    go_wp2_with (fail)
    refine (call_int (spec_RateFor_any m w2 T1.out) HV.out).mono ?_
    rintro e w3 ⟨rfl, hb⟩
    replace T1 := Lib.hid (T1.out.below hb (Nat.le_refl _))
    replace B1 := Lib.hid (B1.out.trans (hb.mono B1.out.size))
    clear hb
    go_wp2_with (fail)
    refine (impl_SampleKeys_any 1 w3 T1.out).mono ?_
    rintro e w4 ⟨Aq, nq, cq, rfl, ho, hb⟩
    have x : nq = x0 := by have h1 := ho.len; have h2 := HS.out; omega
    subst x
    replace T1 := Lib.hid (T1.out.below hb (Nat.le_refl _))
    replace B1 := Lib.hid (B1.out.trans (hb.mono B1.out.size))
    clear ho hb
    go_wp2_with (fail)
    refine (call_int (impl_RateFor_any (n1 : Int) w4 T1.out) HQ.out).mono ?_
    rintro e w5 ⟨rfl, hb⟩
    replace T1 := Lib.hid (T1.out.below hb (Nat.le_refl _))
    replace B1 := Lib.hid (B1.out.trans (hb.mono B1.out.size))
    clear hb
    go_wp2_with (fail)
    go_ret
    exact ⟨ret_bool (by first | rfl | (simp; done) | (simp; omega)), B1.out⟩
  · skip
    go_wp2_with (fail)
    refine (call_int (impl_RateFor_any m w1 T1.out) HV.out).mono ?_
    rintro e w2 ⟨rfl, hb⟩
    replace T1 := Lib.hid (T1.out.below hb (Nat.le_refl _))
    replace B1 := Lib.hid (B1.out.trans (hb.mono B1.out.size))
    clear hb
    go_wp2_with (fail)
    refine (call_int (spec_RateFor_any m w2 T1.out) HV.out).mono ?_
    rintro e w3 ⟨rfl, hb⟩
    replace T1 := Lib.hid (T1.out.below hb (Nat.le_refl _))
    replace B1 := Lib.hid (B1.out.trans (hb.mono B1.out.size))
    clear hb
    go_wp2_with (fail)
    refine (impl_SampleKeys_any 1 w3 T1.out).mono ?_
    rintro e w4 ⟨Aq, nq, cq, rfl, ho, hb⟩
    have x : nq = x0 := by have h1 := ho.len; have h2 := HS.out; omega
    subst x
    replace T1 := Lib.hid (T1.out.below hb (Nat.le_refl _))
    replace B1 := Lib.hid (B1.out.trans (hb.mono B1.out.size))
    clear ho hb
    go_wp2_with (fail)
    refine (call_int (impl_RateFor_any (n1 : Int) w4 T1.out) HQ.out).mono ?_
    rintro e w5 ⟨rfl, hb⟩
    replace T1 := Lib.hid (T1.out.below hb (Nat.le_refl _))
    replace B1 := Lib.hid (B1.out.trans (hb.mono B1.out.size))
    clear hb
    go_wp2_with (fail)
    go_ret
    exact ⟨ret_bool (by first | rfl | (simp; done) | (simp; omega)), B1.out⟩
  · skip
    go_wp2_with (fail)
    refine (call_int (impl_RateFor_any m w1 T1.out) HV.out).mono ?_
    rintro e w2 ⟨rfl, hb⟩
    replace T1 := Lib.hid (T1.out.below hb (Nat.le_refl _))
    replace B1 := Lib.hid (B1.out.trans (hb.mono B1.out.size))
    clear hb
    go_wp2_with (fail)
    refine (call_int (spec_RateFor_any m w2 T1.out) HV.out).mono ?_
    rintro e w3 ⟨rfl, hb⟩
    replace T1 := Lib.hid (T1.out.below hb (Nat.le_refl _))
    replace B1 := Lib.hid (B1.out.trans (hb.mono B1.out.size))
    clear hb
    go_wp2_with (fail)
    refine (impl_SampleKeys_any 1 w3 T1.out).mono ?_
    rintro e w4 ⟨Aq, nq, cq, rfl, ho, hb⟩
    have x : nq = x0 := by have h1 := ho.len; have h2 := HS.out; omega
    subst x
    replace T1 := Lib.hid (T1.out.below hb (Nat.le_refl _))
    replace B1 := Lib.hid (B1.out.trans (hb.mono B1.out.size))
    clear ho hb
    go_wp2_with (fail)
    refine (call_int (impl_RateFor_any (n1 : Int) w4 T1.out) HQ.out).mono ?_
    rintro e w5 ⟨rfl, hb⟩
    replace T1 := Lib.hid (T1.out.below hb (Nat.le_refl _))
    replace B1 := Lib.hid (B1.out.trans (hb.mono B1.out.size))
    clear hb
    go_wp2_with (fail)
    go_ret
    exact ⟨ret_bool (by first | rfl | (simp; done) | (simp; omega)), B1.out⟩
  · skip
    go_wp2_with (fail)
    refine (call_int (impl_RateFor_any m w1 T1.out) HV.out).mono ?_
    rintro e w2 ⟨rfl, hb⟩
    replace T1 := Lib.hid (T1.out.below hb (Nat.le_refl _))
    replace B1 := Lib.hid (B1.out.trans (hb.mono B1.out.size))
    clear hb
    go_wp2_with (fail)
    refine (call_int (spec_RateFor_any m w2 T1.out) HV.out).mono ?_
    rintro e w3 ⟨rfl, hb⟩
    replace T1 := Lib.hid (T1.out.below hb (Nat.le_refl _))
    replace B1 := Lib.hid (B1.out.trans (hb.mono B1.out.size))
    clear hb
    go_wp2_with (fail)
    refine (impl_SampleKeys_any 1 w3 T1.out).mono ?_
    rintro e w4 ⟨Aq, nq, cq, rfl, ho, hb⟩
    have x : nq = x0 := by have h1 := ho.len; have h2 := HS.out; omega
    subst x
    replace T1 := Lib.hid (T1.out.below hb (Nat.le_refl _))
    replace B1 := Lib.hid (B1.out.trans (hb.mono B1.out.size))
    clear ho hb
    go_wp2_with (fail)
    refine (call_int (impl_RateFor_any (n1 : Int) w4 T1.out) HQ.out).mono ?_
    rintro e w5 ⟨rfl, hb⟩
    replace T1 := Lib.hid (T1.out.below hb (Nat.le_refl _))
    replace B1 := Lib.hid (B1.out.trans (hb.mono B1.out.size))
    clear hb
    go_wp2_with (fail)
    go_ret
    exact ⟨ret_bool (by first | rfl | (simp; done) | (simp; omega)), B1.out⟩
  · skip
    go_wp2_with (fail)
    refine (call_int (impl_RateFor_any m w1 T1.out) HV.out).mono ?_
    rintro e w2 ⟨rfl, hb⟩
    replace T1 := Lib.hid (T1.out.below hb (Nat.le_refl _))
    replace B1 := Lib.hid (B1.out.trans (hb.mono B1.out.size))
    clear hb
    go_wp2_with (fail)
    refine (call_int (spec_RateFor_any m w2 T1.out) HV.out).mono ?_
    rintro e w3 ⟨rfl, hb⟩
    replace T1 := Lib.hid (T1.out.below hb (Nat.le_refl _))
    replace B1 := Lib.hid (B1.out.trans (hb.mono B1.out.size))
    clear hb
    go_wp2_with (fail)
    refine (impl_SampleKeys_any 1 w3 T1.out).mono ?_
    rintro e w4 ⟨Aq, nq, cq, rfl, ho, hb⟩
    have x : nq = x0 := by have h1 := ho.len; have h2 := HS.out; omega
    subst x
    replace T1 := Lib.hid (T1.out.below hb (Nat.le_refl _))
    replace B1 := Lib.hid (B1.out.trans (hb.mono B1.out.size))
    clear ho hb
    go_wp2_with (fail)
    refine (call_int (impl_RateFor_any (n1 : Int) w4 T1.out) HQ.out).mono ?_
    rintro e w5 ⟨rfl, hb⟩
    replace T1 := Lib.hid (T1.out.below hb (Nat.le_refl _))
    replace B1 := Lib.hid (B1.out.trans (hb.mono B1.out.size))
    clear hb
    go_wp2_with (fail)
    go_ret
    exact ⟨ret_bool (by first | rfl | (simp; done) | (simp; omega)), B1.out⟩
end Go.Proofs.Ytbadgnekailnaaa
