/-
  The walk of FnGuessAll. (Its words were written by a program of my own.)
-/
import Derived.Test.YtbadgnekailnaaaDrawK
import Derived.Test.YtbadgnekailnaaaSb
import Derived.Test.YtbadgnekailnaaaSaN
import Derived.Deep.RegionHeld3
import Derived.Deep.DeepMust
import Derived.Deep.DeepCutAuto
namespace Go.Proofs.Ytbadgnekailnaaa
open Go.RowKit
-- CALL: W s0
set_option maxHeartbeats 8000000 in
theorem walk_FnGuessAll {A : Option Addr} {n c : Nat} {zs : List Int} (w : World) (h : BS w A n c zs) :
    Calls Try.prog 12 #[.slice A n c] w fun e w' => e = .returned (.bool true) ∧ Below w.heap.size w w' := by
  have H := Lib.hid h
  clear h
  rcases Nat.lt_or_ge 1048576 n with h1 | h1
  · have h1' : (1048576 : Int) < (n : Int) := by omega
    go_enter Try.func12, Try.ntmps12
    go_wp2_with (fail)
    go_ret
    exact ⟨rfl, Below.refl _ _⟩
  have h1' : ¬ (1048576 : Int) < (n : Int) := by omega
  go_enter Try.func12, Try.ntmps12
  go_wp2_with (fail)
  refine (spec_DrawGuessAll_any w H.out h1).mono ?_
  rintro e w1 ⟨k, r, rfl, ⟨k0, k1⟩, ⟨r0, r1⟩, hbl⟩
  have B1 := Lib.hid hbl
  clear hbl
  obtain ⟨v, hv⟩ : ∃ v, guV k r = v := ⟨_, rfl⟩
  have HV := Lib.hid hv
  clear hv
  rcases hk : inR k 0 200 with _ | _
  all_goals rcases hr : inR r 1 16 with _ | _
  case true.true =>
    obtain ⟨k2, k3⟩ := inR_iff.1 hk
    obtain ⟨r2, r3⟩ := inR_iff.1 hr
    have hv : v = k * r := by rw [← HV.out]; simp [guV, hk, hr]
    obtain ⟨v0, v1⟩ := mul_bd k2 k3 (by omega : 0 ≤ r) r3
    rw [← hv] at v0 v1
    have hn : ¬ v < 0 := by omega
    by_cases hM : k = 200
    · have hM' : (k == 200) = true := by simp [hM]
      clear hM hv hk hr
      go_wp2_with (fail)
      refine (call_int (impl_GuessAll_any k r w1) HV.out).mono ?_
      rintro e w' ⟨rfl, rfl⟩
      go_wp2_with (fail)
      refine (call_int (spec_GuessAll_any k r w1) HV.out).mono ?_
      rintro e w' ⟨rfl, rfl⟩
      go_wp2_with (fail)
      refine (call_int (spec_GuessAll_any k r w1) HV.out).mono ?_
      rintro e w' ⟨rfl, rfl⟩
      go_wp2_with (fail)
      go_ret
      exact ⟨ret_bool (by first | rfl | (simp; done) | (simp; omega)), B1.out⟩
    have hM' : (k == 200) = false := by simp [hM]
    have H1 : Hid (guV (k + 1) r = v + r) := Lib.hid (by
      have e : inR (k + 1) 0 200 = true := inR_t (by omega) (by omega)
      simp only [guV, e, hr, Bool.and_self, if_true, hv, Int.add_mul, Int.one_mul])
    have H2 : Hid (guV k 1 = k) := Lib.hid (by
      have e : inR 1 1 16 = true := by decide
      simp only [guV, e, hk, Bool.and_self, if_true, Int.mul_one])
    have H3 : Hid (guV 0 r = 0) := Lib.hid (by
      have e : inR 0 0 200 = true := by decide
      simp only [guV, e, hr, Bool.and_self, if_true, Int.zero_mul])
    clear hM hv hk hr
    go_wp2_with (fail)
    refine (call_int (impl_GuessAll_any k r w1) HV.out).mono ?_
    rintro e w' ⟨rfl, rfl⟩
    go_wp2_with (fail)
    refine (call_int (spec_GuessAll_any k r w1) HV.out).mono ?_
    rintro e w' ⟨rfl, rfl⟩
    go_wp2_with (fail)
    refine (call_int (impl_GuessAll_any (k + 1) r w1) H1.out).mono ?_
    rintro e w' ⟨rfl, rfl⟩
    go_wp2_with (fail)
    refine (call_int (impl_GuessAll_any k 1 w1) H2.out).mono ?_
    rintro e w' ⟨rfl, rfl⟩
    go_wp2_with (fail)
    refine (call_int (impl_GuessAll_any 0 r w1) H3.out).mono ?_
    rintro e w' ⟨rfl, rfl⟩
    go_wp2_with (fail)
    go_ret
    exact ⟨ret_bool (by first | rfl | (simp; done) | (simp; omega)), B1.out⟩
  all_goals
    have hv : v = -1 := by rw [← HV.out]; simp [guV, hk, hr]
    subst hv
    clear hk hr
    go_wp2_with (fail)
    refine (call_int (impl_GuessAll_any k r w1) HV.out).mono ?_
    rintro e w' ⟨rfl, rfl⟩
    go_wp2_with (fail)
    refine (call_int (spec_GuessAll_any k r w1) HV.out).mono ?_
    rintro e w' ⟨rfl, rfl⟩
    go_wp2_with (fail)
    refine (call_int (spec_GuessAll_any k r w1) HV.out).mono ?_
    rintro e w' ⟨rfl, rfl⟩
    go_wp2_with (fail)
    go_ret
    exact ⟨ret_bool (by first | rfl | (simp; done) | (simp; omega)), B1.out⟩
end Go.Proofs.Ytbadgnekailnaaa
