/-
  The walk of FnVictimForNone. (Its words were written by a program of my own.)
-/
import Derived.Test.YtnhlbaldbjcjaaaGenR
import Derived.Test.YtnhlbaldbjcjaaaVicS
import Derived.Test.YtnhlbaldbjcjaaaVicN
import Derived.Deep.RegionHeld3
import Derived.Deep.DeepMust
import Derived.Deep.DeepCutAuto
namespace Go.Proofs.Ytnhlbaldbjcjaaa
open Go.RowKit
-- CALL: W s0
set_option maxHeartbeats 1600000 in
theorem walk_FnVictimForNone {A : Option Addr} {n c : Nat} {zs : List Int} (w : World) (h : BS w A n c zs) :
    Calls Try.prog 4 #[.slice A n c] w fun e w' => e = .returned (.bool true) ∧ Below w.heap.size w w' := by
  have H := Lib.hid h
  clear h
  rcases Nat.lt_or_ge 1048576 n with h1 | h1
  · have h1' : (1048576 : Int) < (n : Int) := by omega
    go_enter Try.func4, Try.ntmps4
    go_wp2_with (fail)
    go_ret
    exact ⟨rfl, Below.refl _ _⟩
  have h1' : ¬ (1048576 : Int) < (n : Int) := by omega
  go_enter Try.func4, Try.ntmps4
  go_wp2_with (fail)
  refine (spec_DrawVictimFor_any w H.out h1).mono ?_
  rintro e w1 ⟨xs, A1, n1, c1, a, rfl, hn1, ha, i1, hb⟩
  have T := Lib.hid i1
  have B1 := Lib.hid hb
  have hz1 := B1.out.size
  clear hb i1
  have HXL := Lib.hid T.out.len
  have hcap1 := T.out.cap
  obtain ⟨v, hv⟩ : ∃ v, victimV xs a = v := ⟨_, rfl⟩
  have hvb := victim_bd xs a
  rw [hv] at hvb
  have HV := Lib.hid hv
  clear hv
  obtain ⟨m, hm⟩ : ∃ m, canShed xs a = m := ⟨_, rfl⟩
  have HM := Lib.hid hm
  clear hm
  by_cases h0 : m < 0
  · skip
    go_wp2_with (fail)
    refine (call_int (impl_VictimFor_any a _ T.out) HV.out).mono ?_
    rintro e w2 ⟨rfl, hb⟩
    replace T := Lib.hid (T.out.below hb (Nat.le_refl _))
    replace B1 := Lib.hid (B1.out.trans (hb.mono B1.out.size))
    clear hb
    go_wp2_with (fail)
    refine (call_int (spec_VictimFor_any a _ T.out) HV.out).mono ?_
    rintro e w3 ⟨rfl, hb⟩
    replace T := Lib.hid (T.out.below hb (Nat.le_refl _))
    replace B1 := Lib.hid (B1.out.trans (hb.mono B1.out.size))
    clear hb
    go_wp2_with (fail)
    refine (call_int (impl_CanShed_any a _ T.out) HM.out).mono ?_
    rintro e w4 ⟨rfl, hb⟩
    replace T := Lib.hid (T.out.below hb (Nat.le_refl _))
    replace B1 := Lib.hid (B1.out.trans (hb.mono B1.out.size))
    clear hb
    go_wp2_with (fail)
    refine (call_int (spec_VictimFor_any a _ T.out) HV.out).mono ?_
    rintro e w5 ⟨rfl, hb⟩
    replace T := Lib.hid (T.out.below hb (Nat.le_refl _))
    replace B1 := Lib.hid (B1.out.trans (hb.mono B1.out.size))
    clear hb
    go_wp2_with (fail)
    go_ret
    exact ⟨ret_bool (by first | rfl | (simp; done) | (simp; omega)), B1.out⟩
  have h0n : ¬ m < 0 := h0
  clear h0
  have HE : Hid (validE xs = true ∧ inR a 0 2 = true) := Lib.hid (by
    rcases h1 : validE xs with _ | _
    · have := HM.out; rw [canShed_f (.inl h1)] at this; omega
    rcases h2 : inR a 0 2 with _ | _
    · have := HM.out; rw [canShed_f (.inr h2)] at this; omega
    exact ⟨rfl, rfl⟩)
  have heq : (v == -1) = (m == 0) := by
    have h1 := vic_shed HE.out.1 (inR_iff.1 HE.out.2).1
    rw [← victimV_t HE.out.1 HE.out.2, HV.out, ← canShed_t HE.out.1 HE.out.2, HM.out] at h1
    rw [Bool.eq_iff_iff]
    simpa using h1
  have HQ := Lib.hid heq
  have HV2 : Hid (victimV xs 2 = -1) := Lib.hid (by rw [victimV_t HE.out.1 (by decide), vic_two])
  obtain ⟨z, hz⟩ : ∃ z, (m == 0) = z := ⟨_, rfl⟩
  have hz2 : (v == -1) = z := by rw [HQ.out, hz]
  have hzz : (z == z) = true := by simp
  clear heq
  go_wp2_with (fail)
  refine (call_int (impl_VictimFor_any a _ T.out) HV.out).mono ?_
  rintro e w2 ⟨rfl, hb⟩
  replace T := Lib.hid (T.out.below hb (Nat.le_refl _))
  replace B1 := Lib.hid (B1.out.trans (hb.mono B1.out.size))
  clear hb
  go_wp2_with (fail)
  refine (call_int (spec_VictimFor_any a _ T.out) HV.out).mono ?_
  rintro e w3 ⟨rfl, hb⟩
  replace T := Lib.hid (T.out.below hb (Nat.le_refl _))
  replace B1 := Lib.hid (B1.out.trans (hb.mono B1.out.size))
  clear hb
  go_wp2_with (fail)
  refine (call_int (impl_CanShed_any a _ T.out) HM.out).mono ?_
  rintro e w4 ⟨rfl, hb⟩
  replace T := Lib.hid (T.out.below hb (Nat.le_refl _))
  replace B1 := Lib.hid (B1.out.trans (hb.mono B1.out.size))
  clear hb
  go_wp2_with (fail)
  refine (call_int (impl_CanShed_any a _ T.out) HM.out).mono ?_
  rintro e w5 ⟨rfl, hb⟩
  replace T := Lib.hid (T.out.below hb (Nat.le_refl _))
  replace B1 := Lib.hid (B1.out.trans (hb.mono B1.out.size))
  clear hb
  go_wp2_with (fail)
  refine (call_int (impl_VictimFor_any 2 _ T.out) HV2.out).mono ?_
  rintro e w6 ⟨rfl, hb⟩
  replace T := Lib.hid (T.out.below hb (Nat.le_refl _))
  replace B1 := Lib.hid (B1.out.trans (hb.mono B1.out.size))
  clear hb
  go_wp2_with (fail)
  go_ret
  exact ⟨ret_bool (by first | rfl | (simp; done) | (simp; omega)), B1.out⟩
end Go.Proofs.Ytnhlbaldbjcjaaa
