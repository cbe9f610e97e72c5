/-
  The walk of FnTryTimeBatch. (Its words were written by a program of my own.)
-/
import Derived.Test.YtdbmglhoohgniaaDoorDrawY
import Derived.Deep.RegionHeld3
import Derived.Deep.DeepMust
import Derived.Deep.DeepCutAuto
namespace Go.Proofs.YtdbmglhoohgniaaDoor
open Go.RowKit

-- CALL: W s0 wa0
set_option maxHeartbeats 4000000 in
theorem walk_FnTryTimeBatch {A : Option Addr} {n c : Nat} {zs : List Int} (w : World) (h : BS w A n c zs) (h800 : WA w) :
    Calls Tryd.prog 14 #[.slice A n c] w fun e w' => e = .returned (.bool true) ∧ Below w.heap.size w w' := by
  have H := Lib.hid h
  clear h
  rcases Nat.lt_or_ge 1048576 n with h1 | h1
  · have h1' : (1048576 : Int) < (n : Int) := by omega
    go_enter Tryd.func14, Tryd.ntmps14
    go_wp2_with (fail)
    go_ret
    exact ⟨rfl, Below.refl _ _⟩
  have h1' : ¬ (1048576 : Int) < (n : Int) := by omega
  go_enter Tryd.func14, Tryd.ntmps14
  go_wp2_with (fail)
  refine (spec_DrawTryTime_any w H.out h1).mono ?_
  rintro e w1 ⟨b, t, m, rfl, ⟨hb0, hb1⟩, ⟨ht0, ht1⟩, ⟨hm0, hm1⟩, hbl⟩
  have B1 := Lib.hid hbl
  have W1 := Lib.hid (h800.below hbl (Nat.le_refl _))
  clear hbl h800
  obtain ⟨v, hv⟩ : ∃ v, ttV b t m = v := ⟨_, rfl⟩
  have HV := Lib.hid hv
  clear hv
  rcases hok : ttOK b t m with _ | _
  · have hv : v = -1 := by rw [← HV.out]; simp [ttV, hok]
    subst hv
    clear hok
    go_wp2_with (fail)
    refine (call_int (impl_TryTime_any b t m w1 W1.out) HV.out).mono ?_
    rintro e w' ⟨rfl, rfl⟩
    go_wp2_with (fail)
    refine (call_int (spec_TryTime_any b t m w1) HV.out).mono ?_
    rintro e w' ⟨rfl, rfl⟩
    go_wp2_with (fail)
    refine (call_int (spec_TryTime_any b t m w1) HV.out).mono ?_
    rintro e w' ⟨rfl, rfl⟩
    go_wp2_with (fail)
    go_ret
    exact ⟨ret_bool (by first | rfl | (simp; done) | (simp; omega)), B1.out⟩
  obtain ⟨k1, k2, k3⟩ := tt_in hok
  obtain ⟨s, hs⟩ : ∃ s, swV b t = s := ⟨_, rfl⟩
  obtain ⟨x, hx⟩ : ∃ x, boV t = x := ⟨_, rfl⟩
  obtain ⟨s1, s2, s3, s4⟩ := sw_bd (b := b) k2
  rw [hs] at s1 s2 s3
  rw [hx] at s1 s2 s4
  have hv : v = m + s := by rw [← HV.out, ← hs]; simp [ttV, hok]
  obtain ⟨b0, b1⟩ := inR_iff.1 k1
  obtain ⟨t0, t1⟩ := inR_iff.1 k2
  obtain ⟨m0, m1⟩ := inR_iff.1 k3
  have hn : ¬ v < 0 := by omega
  have HX := Lib.hid hx
  by_cases hM : b = 1000
  · have hM' : (b == 1000) = true := by simp [hM]
    clear hM hok k1 k2 k3 hs hx hv s1 s2 s3
    go_wp2_with (fail)
    refine (call_int (impl_TryTime_any b t m w1 W1.out) HV.out).mono ?_
    rintro e w' ⟨rfl, rfl⟩
    go_wp2_with (fail)
    refine (call_int (spec_TryTime_any b t m w1) HV.out).mono ?_
    rintro e w' ⟨rfl, rfl⟩
    go_wp2_with (fail)
    refine (call_int (spec_TryTime_any b t m w1) HV.out).mono ?_
    rintro e w' ⟨rfl, rfl⟩
    go_wp2_with (fail)
    go_ret
    exact ⟨ret_bool (by first | rfl | (simp; done) | (simp; omega)), B1.out⟩
  have hM' : (b == 1000) = false := by simp [hM]
  obtain ⟨v2, hv2⟩ : ∃ v2, ttV (b + 1) t m = v2 := ⟨_, rfl⟩
  have hok2 : ttOK (b + 1) t m = true := by simp only [ttOK, inR_t (show 0 ≤ b + 1 by omega) (show b + 1 ≤ 1000 by omega), k2, k3, Bool.and_self]
  have hp : v2 - v < (x + 1) / 2 ∧ -((x + 1) / 2) < v2 - v ∧ v2 ≤ 2000 ∧ 0 ≤ v2 := by
    have hs2 := (sw_bd (b := b + 1) k2)
    have hv2' : v2 = m + swV (b + 1) t := by rw [← hv2]; simp only [ttV, hok2, if_true]
    rw [hx] at hs2
    have q1 := mod_bd (37 * (b + 1) + 11 * t + 5) ((x + 1) / 2) (by omega)
    have q2 := mod_bd (37 * b + 11 * t + 5) ((x + 1) / 2) (by omega)
    have q3 : swV (b + 1) t = x - (37 * (b + 1) + 11 * t + 5) % ((x + 1) / 2) := by simp only [swV, hx]
    have q4 : swV b t = x - (37 * b + 11 * t + 5) % ((x + 1) / 2) := by simp only [swV, hx]
    omega
  obtain ⟨p1, p2, p3, p5⟩ := hp
  have p4 : v ≤ 2000 := by omega
  have x0 : 0 ≤ x := by omega
  have HN := Lib.hid hv2
  clear hM hok hok2 k1 k2 k3 hs hx hv hv2 s1 s2 s3
  go_wp2_with (fail)
  refine (call_int (impl_TryTime_any b t m w1 W1.out) HV.out).mono ?_
  rintro e w' ⟨rfl, rfl⟩
  go_wp2_with (fail)
  refine (call_int (spec_TryTime_any b t m w1) HV.out).mono ?_
  rintro e w' ⟨rfl, rfl⟩
  go_wp2_with (fail)
  refine (call_int (impl_TryTime_any (b + 1) t m w1 W1.out) HN.out).mono ?_
  rintro e w' ⟨rfl, rfl⟩
  go_wp2_with (fail)
  refine (call_int (impl_BackoffOf_any t w1 W1.out) HX.out).mono ?_
  rintro e w' ⟨rfl, rfl⟩
  go_wp2_with (fail)
  go_ret
  exact ⟨ret_bool (by first | rfl | (simp; done) | (simp; omega)), B1.out⟩
end Go.Proofs.YtdbmglhoohgniaaDoor
