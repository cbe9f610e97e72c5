/-
  The walk of FnKeepsKey. (Its words were written by a program of my own.)
-/
import Derived.Test.YtbadgnekailnaaaDrawK
import Derived.Test.YtbadgnekailnaaaSb
import Derived.Test.YtbadgnekailnaaaSaN
import Derived.Deep.RegionHeld3
import Derived.Deep.DeepMust
import Derived.Deep.DeepCutAuto
namespace Go.Proofs.Ytbadgnekailnaaa
open Go.RowKit
-- CALL: W s0
set_option maxHeartbeats 8000000 in
theorem walk_FnKeepsKey {A : Option Addr} {n c : Nat} {zs : List Int} (w : World) (h : BS w A n c zs) :
    Calls Try.prog 7 #[.slice A n c] w fun e w' => e = .returned (.bool true) ∧ Below w.heap.size w w' := by
  have H := Lib.hid h
  clear h
  rcases Nat.lt_or_ge 1048576 n with h1 | h1
  · have h1' : (1048576 : Int) < (n : Int) := by omega
    go_enter Try.func7, Try.ntmps7
    go_wp2_with (fail)
    go_ret
    exact ⟨rfl, Below.refl _ _⟩
  have h1' : ¬ (1048576 : Int) < (n : Int) := by omega
  go_enter Try.func7, Try.ntmps7
  go_wp2_with (fail)
  refine (spec_DrawKeepsKey_any w H.out h1).mono ?_
  rintro e w1 ⟨k, r, rfl, ⟨k0, k1⟩, ⟨r0, r1⟩, hbl⟩
  have B1 := Lib.hid hbl
  clear hbl
  obtain ⟨v, hv⟩ : ∃ v, keepV k r = v := ⟨_, rfl⟩
  have HV := Lib.hid hv
  clear hv
  rcases v with _ | _
  · skip
    go_wp2_with (fail)
    refine (call_b (impl_KeepsKey_any k r w1) HV.out).mono ?_
    rintro e w' ⟨rfl, rfl⟩
    go_wp2_with (fail)
    refine (call_b (spec_KeepsKey_any k r w1) HV.out).mono ?_
    rintro e w' ⟨rfl, rfl⟩
    go_wp2_with (fail)
    refine (call_b (spec_KeepsKey_any k r w1) HV.out).mono ?_
    rintro e w' ⟨rfl, rfl⟩
    go_wp2_with (fail)
    go_ret
    exact ⟨ret_bool (by first | rfl | (simp; done) | (simp; omega)), B1.out⟩
  obtain ⟨q1, q2, q3⟩ := keepV_in HV.out
  obtain ⟨r2, r3⟩ := inR_iff.1 q2
  obtain ⟨R, rfl⟩ := Int.eq_ofNat_of_zero_le r0
  clear q1 q2 q3 k0 k1 r0 r1
  go_wp2_with (fail)
  refine (call_b (impl_KeepsKey_any k (R : Int) w1) HV.out).mono ?_
  rintro e w' ⟨rfl, rfl⟩
  go_wp2_with (fail)
  refine (call_b (spec_KeepsKey_any k (R : Int) w1) HV.out).mono ?_
  rintro e w' ⟨rfl, rfl⟩
  go_wp2_with (fail)
  go_loop [6] (fun i => ∃ d : Nat, 1 ≤ d ∧ d ≤ R + 1 ∧ i = .int .i64 (d : Int)) (fun i => R + 1 - (intOf i).toNat)
  case atStart => exact ⟨1, by omega, by omega, rfl⟩
  case round =>
    obtain ⟨d, hd1, hd2, rfl⟩ := hrel
    by_cases hlt : d ≤ R
    · have hlt' : (d : Int) ≤ (R : Int) := by omega
      have hd0 : ((d : Int) == 0) = false := by simp; omega
      by_cases hm : (R : Int) % (d : Int) = 0
      · have hm' : ((R : Int) % (d : Int) == 0) = true := by simp [hm]
        have HC := Lib.hid (keep_dvd HV.out (by omega) hlt' hm)
        clear hm
        go_wp2_with (fail)
        refine (call_b (impl_KeepsKey_any k (d : Int) w1) HC.out).mono ?_
        rintro e w' ⟨rfl, rfl⟩
        go_wp2_with (fail)
        go_round
        case rel => exact ⟨d + 1, by omega, by omega, by first | rfl | go_num⟩
        case measure => simp [intOf]; omega
      · have hm' : ((R : Int) % (d : Int) == 0) = false := by simp [hm]
        clear hm
        go_wp2_with (fail)
        go_round
        case rel => exact ⟨d + 1, by omega, by omega, by first | rfl | go_num⟩
        case measure => simp [intOf]; omega
    · have hlt' : ¬ (d : Int) ≤ (R : Int) := by omega
      go_wp2_with (fail)
      go_ret
      exact ⟨rfl, B1.out⟩
end Go.Proofs.Ytbadgnekailnaaa
