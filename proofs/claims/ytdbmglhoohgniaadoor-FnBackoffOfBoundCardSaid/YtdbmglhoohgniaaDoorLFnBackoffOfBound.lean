/-
  The walk of FnBackoffOfBound. (Its words were written by a program of my own.)
-/
import Derived.Test.YtdbmglhoohgniaaDoorDrawY
import Derived.Deep.RegionHeld3
import Derived.Deep.DeepMust
import Derived.Deep.DeepCutAuto
namespace Go.Proofs.YtdbmglhoohgniaaDoor
open Go.RowKit

-- CALL: W s0 wa0
set_option maxHeartbeats 4000000 in
theorem walk_FnBackoffOfBound {A : Option Addr} {n c : Nat} {zs : List Int} (w : World) (h : BS w A n c zs) (h800 : WA w) :
    Calls Tryd.prog 8 #[.slice A n c] w fun e w' => e = .returned (.bool true) ∧ Below w.heap.size w w' := by
  have H := Lib.hid h
  clear h
  rcases Nat.lt_or_ge 1048576 n with h1 | h1
  · have h1' : (1048576 : Int) < (n : Int) := by omega
    go_enter Tryd.func8, Tryd.ntmps8
    go_wp2_with (fail)
    go_ret
    exact ⟨rfl, Below.refl _ _⟩
  have h1' : ¬ (1048576 : Int) < (n : Int) := by omega
  go_enter Tryd.func8, Tryd.ntmps8
  go_wp2_with (fail)
  refine (spec_DrawBackoffOf_any w H.out h1).mono ?_
  rintro e w1 ⟨t, rfl, ht0, ht1, hb1⟩
  have B1 := Lib.hid hb1
  have W1 := Lib.hid (h800.below hb1 (Nat.le_refl _))
  clear hb1 h800
  obtain ⟨v, hv⟩ : ∃ v, boV t = v := ⟨_, rfl⟩
  have HV := Lib.hid hv
  clear hv
  rcases hin : inR t 1 6 with _ | _
  · have hm : v = -1 := by rw [← HV.out]; exact boV_no hin
    subst hm
    clear hin
    go_wp2_with (fail)
    refine (call_int (impl_BackoffOf_any t w1 W1.out) HV.out).mono ?_
    rintro e w' ⟨rfl, rfl⟩
    go_wp2_with (fail)
    refine (call_int (spec_BackoffOf_any t w1) HV.out).mono ?_
    rintro e w' ⟨rfl, rfl⟩
    go_wp2_with (fail)
    refine (call_int (spec_BackoffOf_any t w1) HV.out).mono ?_
    rintro e w' ⟨rfl, rfl⟩
    go_wp2_with (fail)
    go_ret
    exact ⟨ret_bool (by first | rfl | (simp; done) | (simp; omega)), B1.out⟩
  obtain ⟨h1, h6⟩ := inR_iff.1 hin
  have hbd : 4 ≤ v ∧ v ≤ 60 := by
    rw [← HV.out]
    rcases six hin with rfl | rfl | rfl | rfl | rfl | rfl <;> simp [boV_1, boV_2, boV_3, boV_4, boV_5, boV_6]
  obtain ⟨hv4, hv60⟩ := hbd
  have hn : ¬ v < 0 := by omega
  clear hin
  go_wp2_with (fail)
  refine (call_int (impl_BackoffOf_any t w1 W1.out) HV.out).mono ?_
  rintro e w' ⟨rfl, rfl⟩
  go_wp2_with (fail)
  refine (call_int (spec_BackoffOf_any t w1) HV.out).mono ?_
  rintro e w' ⟨rfl, rfl⟩
  go_wp2_with (fail)
  go_ret
  exact ⟨ret_bool (by first | rfl | (simp; done) | (simp; omega)), B1.out⟩
end Go.Proofs.YtdbmglhoohgniaaDoor
