/-
  The walk of FnLastWait. (Its words were written by a program of my own.)
-/
import Derived.Test.YtdbmglhoohgniaaDoorDrawY
import Derived.Deep.RegionHeld3
import Derived.Deep.DeepMust
import Derived.Deep.DeepCutAuto
namespace Go.Proofs.YtdbmglhoohgniaaDoor
open Go.RowKit

-- CALL: W s0 wa0
set_option maxHeartbeats 4000000 in
theorem walk_FnLastWait {A : Option Addr} {n c : Nat} {zs : List Int} (w : World) (h : BS w A n c zs) (h800 : WA w) :
    Calls Tryd.prog 13 #[.slice A n c] w fun e w' => e = .returned (.bool true) ∧ Below w.heap.size w w' := by
  have H := Lib.hid h
  clear h
  rcases Nat.lt_or_ge 1048576 n with h1 | h1
  · have h1' : (1048576 : Int) < (n : Int) := by omega
    go_enter Tryd.func13, Tryd.ntmps13
    go_wp2_with (fail)
    go_ret
    exact ⟨rfl, Below.refl _ _⟩
  have h1' : ¬ (1048576 : Int) < (n : Int) := by omega
  go_enter Tryd.func13, Tryd.ntmps13
  go_wp2_with (fail)
  refine (spec_DrawLastWait_any w H.out h1).mono ?_
  rintro e w1 ⟨t, rfl, ht0, ht1, hb1⟩
  have B1 := Lib.hid hb1
  have W1 := Lib.hid (h800.below hb1 (Nat.le_refl _))
  clear hb1 h800
  obtain ⟨v, hv⟩ : ∃ v, lwV t = v := ⟨_, rfl⟩
  have HV := Lib.hid hv
  clear hv
  rcases Int.lt_or_le v 1 with hs | hs
  · skip
    go_wp2_with (fail)
    refine (call_int (impl_LastWait_any t w1 W1.out) HV.out).mono ?_
    rintro e w' ⟨rfl, rfl⟩
    go_wp2_with (fail)
    refine (call_int (spec_LastWait_any t w1) HV.out).mono ?_
    rintro e w' ⟨rfl, rfl⟩
    go_wp2_with (fail)
    refine (call_int (spec_LastWait_any t w1) HV.out).mono ?_
    rintro e w' ⟨rfl, rfl⟩
    go_wp2_with (fail)
    go_ret
    exact ⟨ret_bool (by first | rfl | (simp; done) | (simp; omega)), B1.out⟩
  have hs' : ¬ v < 1 := by omega
  obtain ⟨k, rfl, hk⟩ : ∃ k : Nat, t = (k : Int) + 1 ∧ k ≤ 5 := by
    rcases hin : inR t 0 6 with _ | _
    · have h2 := HV.out
      simp [lwV, hin] at h2
      omega
    · have h3 := inR_iff.1 hin
      rcases Int.lt_or_le t 1 with h4 | h4
      · obtain rfl : t = 0 := by omega
        have h2 := HV.out
        simp [lwV, inR, lwN] at h2
        omega
      · exact ⟨t.toNat - 1, by omega, by omega⟩
  have e1 : lwV ((k : Int) + 1) = lwN (k + 1) := by
    have : inR ((k : Int) + 1) 0 6 = true := inR_t (by omega) (by omega)
    simp only [lwV, this, if_true]
    rfl
  have e2 : lwV (k : Int) = lwN k := by
    have : inR (k : Int) 0 6 = true := inR_t (by omega) (by omega)
    simp only [lwV, this, if_true]
    rfl
  have e3 : boV ((k : Int) + 1) = boN k := boV_nat (k := k) (by omega)
  obtain ⟨u, hu⟩ : ∃ u, lwN k = u := ⟨_, rfl⟩
  obtain ⟨x, hx⟩ : ∃ x, boN k = x := ⟨_, rfl⟩
  clear hs
  have hb1 := boN_bd k
  have hb2 := lwN_bd k
  rw [hx] at hb1
  rw [hu] at hb2
  obtain ⟨b10, b11⟩ := hb1
  obtain ⟨b20, b21⟩ := hb2
  have hvx : u + x = v := by rw [← HV.out, e1, ← hu, ← hx]; rfl
  have HU := Lib.hid (e2.trans hu)
  have HX := Lib.hid (e3.trans hx)
  obtain rfl : v = u + x := hvx.symm
  have HZ : Hid (lwV 0 = 0) := Lib.hid (by decide)
  clear e1 e2 e3 hu hx
  go_wp2_with (fail)
  refine (call_int (impl_LastWait_any _ w1 W1.out) HV.out).mono ?_
  rintro e w' ⟨rfl, rfl⟩
  go_wp2_with (fail)
  refine (call_int (spec_LastWait_any _ w1) HV.out).mono ?_
  rintro e w' ⟨rfl, rfl⟩
  go_wp2_with (fail)
  refine (call_int (impl_LastWait_any _ w1 W1.out) (by first | exact HU.out | (rw [Int.add_sub_cancel]; exact HU.out))).mono ?_
  rintro e w' ⟨rfl, rfl⟩
  go_wp2_with (fail)
  refine (call_int (impl_BackoffOf_any _ w1 W1.out) HX.out).mono ?_
  rintro e w' ⟨rfl, rfl⟩
  go_wp2_with (fail)
  refine (call_int (impl_LastWait_any 0 w1 W1.out) HZ.out).mono ?_
  rintro e w' ⟨rfl, rfl⟩
  go_wp2_with (fail)
  go_ret
  exact ⟨ret_bool (by first | rfl | (simp; done) | (simp; omega)), B1.out⟩
end Go.Proofs.YtdbmglhoohgniaaDoor
