/-
  The walk of FnGuessAllSample. (Its words were written by a program of my own.)
-/
import Derived.Test.YtbadgnekailnaaaDrawK
import Derived.Test.YtbadgnekailnaaaSb
import Derived.Test.YtbadgnekailnaaaSaN
import Derived.Deep.RegionHeld3
import Derived.Deep.DeepMust
import Derived.Deep.DeepCutAuto
namespace Go.Proofs.Ytbadgnekailnaaa
open Go.RowKit
-- CALL: W s0
set_option maxHeartbeats 8000000 in
theorem walk_FnGuessAllSample {A : Option Addr} {n c : Nat} {zs : List Int} (w : World) (h : BS w A n c zs) :
    Calls Try.prog 13 #[.slice A n c] w fun e w' => e = .returned (.bool true) ∧ Below w.heap.size w w' := by
  have H := Lib.hid h
  clear h
  rcases Nat.lt_or_ge 1048576 n with h1 | h1
  · have h1' : (1048576 : Int) < (n : Int) := by omega
    go_enter Try.func13, Try.ntmps13
    go_wp2_with (fail)
    go_ret
    exact ⟨rfl, Below.refl _ _⟩
  have h1' : ¬ (1048576 : Int) < (n : Int) := by omega
  go_enter Try.func13, Try.ntmps13
  go_wp2_with (fail)
  refine (spec_DrawGuessAll_any w H.out h1).mono ?_
  rintro e w1 ⟨k, r, rfl, ⟨k0, k1⟩, ⟨r0, r1⟩, hbl⟩
  have B1 := Lib.hid hbl
  clear hbl
  rcases (show r = 0 ∨ r = 1 ∨ r = 2 ∨ r = 3 ∨ r = 4 ∨ r = 5 ∨ r = 6 ∨ r = 7 ∨ r = 8 ∨ r = 9 ∨ r = 10 ∨ r = 11 ∨ r = 12 ∨ r = 13 ∨ r = 14 ∨ r = 15 ∨ r = 16 ∨ r = 17 by omega) with rfl | rfl | rfl | rfl | rfl | rfl | rfl | rfl | rfl | rfl | rfl | rfl | rfl | rfl | rfl | rfl | rfl | rfl
  · skip
    obtain ⟨v, hv⟩ : ∃ v, guV k 0 = v := ⟨_, rfl⟩
    have HV := Lib.hid hv
    clear hv
    rcases Int.lt_or_le v 0 with hn | hn
    · skip
      go_wp2_with (fail)
      refine (call_int (impl_GuessAll_any k 0 w1) HV.out).mono ?_
      rintro e w' ⟨rfl, rfl⟩
      go_wp2_with (fail)
      refine (call_int (spec_GuessAll_any k 0 w1) HV.out).mono ?_
      rintro e w' ⟨rfl, rfl⟩
      go_wp2_with (fail)
      refine (call_int (spec_GuessAll_any k 0 w1) HV.out).mono ?_
      rintro e w' ⟨rfl, rfl⟩
      go_wp2_with (fail)
      go_ret
      exact ⟨ret_bool (by first | rfl | (simp; done) | (simp; omega)), B1.out⟩
    exfalso
    have := HV.out
    simp [guV, inR] at this
    omega
  · skip
    obtain ⟨v, hv⟩ : ∃ v, guV k 1 = v := ⟨_, rfl⟩
    have HV := Lib.hid hv
    clear hv
    rcases Int.lt_or_le v 0 with hn | hn
    · skip
      go_wp2_with (fail)
      refine (call_int (impl_GuessAll_any k 1 w1) HV.out).mono ?_
      rintro e w' ⟨rfl, rfl⟩
      go_wp2_with (fail)
      refine (call_int (spec_GuessAll_any k 1 w1) HV.out).mono ?_
      rintro e w' ⟨rfl, rfl⟩
      go_wp2_with (fail)
      refine (call_int (spec_GuessAll_any k 1 w1) HV.out).mono ?_
      rintro e w' ⟨rfl, rfl⟩
      go_wp2_with (fail)
      go_ret
      exact ⟨ret_bool (by first | rfl | (simp; done) | (simp; omega)), B1.out⟩
    have hn' : ¬ v < 0 := by omega
    go_wp2_with (fail)
    refine (call_int (impl_GuessAll_any k 1 w1) HV.out).mono ?_
    rintro e w' ⟨rfl, rfl⟩
    go_wp2_with (fail)
    refine (call_int (spec_GuessAll_any k 1 w1) HV.out).mono ?_
    rintro e w' ⟨rfl, rfl⟩
    go_wp2_with (fail)
    refine (call_int (spec_GuessAll_any k 1 w1) HV.out).mono ?_
    rintro e w' ⟨rfl, rfl⟩
    go_wp2_with (fail)
    go_ret
    exact ⟨ret_bool (by first | rfl | (simp; done) | (simp; omega)), B1.out⟩
  · skip
    obtain ⟨v, hv⟩ : ∃ v, guV k 2 = v := ⟨_, rfl⟩
    have HV := Lib.hid hv
    rcases hk : inR k 0 200 with _ | _
    · have hv : v = -1 := by rw [← HV.out]; simp [guV, hk]
      subst hv
      clear hk
      go_wp2_with (fail)
      refine (call_int (impl_GuessAll_any k 2 w1) HV.out).mono ?_
      rintro e w' ⟨rfl, rfl⟩
      go_wp2_with (fail)
      refine (call_int (spec_GuessAll_any k 2 w1) HV.out).mono ?_
      rintro e w' ⟨rfl, rfl⟩
      go_wp2_with (fail)
      refine (call_int (spec_GuessAll_any k 2 w1) HV.out).mono ?_
      rintro e w' ⟨rfl, rfl⟩
      go_wp2_with (fail)
      go_ret
      exact ⟨ret_bool (by first | rfl | (simp; done) | (simp; omega)), B1.out⟩
    have k2 := inR_iff.1 hk
    have hr2 : inR 2 1 16 = true := by decide
    have hv2 : v = k * 2 := by rw [← HV.out]; simp [guV, hk, hr2]
    have hn : ¬ v < 0 := by omega
    clear hv hv2 hk k2 hr2
    go_wp2_with (fail)
    refine (call_int (impl_GuessAll_any k 2 w1) HV.out).mono ?_
    rintro e w' ⟨rfl, rfl⟩
    go_wp2_with (fail)
    refine (call_int (spec_GuessAll_any k 2 w1) HV.out).mono ?_
    rintro e w' ⟨rfl, rfl⟩
    go_wp2_with (fail)
    go_loop [6, 7] (fun q i => ∃ j x : Nat, j ≤ 256 ∧ x ≤ 256 ∧ i = .int .i64 (j : Int) ∧ q = .int .i64 (x : Int) ∧ Hid (cntN 2 j = x)) (fun _ i => 256 - (intOf i).toNat)
    case atStart => exact ⟨0, 0, by omega, by omega, rfl, rfl, Lib.hid rfl⟩
    case round =>
      obtain ⟨j, x, hj, hx, rfl, rfl, hc⟩ := hrel
      by_cases hlt : j ≤ 255
      · have hlt' : (j : Int) ≤ 255 := by omega
        have hxj := cntN_le 2 j
        rw [hc.out] at hxj
        rcases hkp : keepP 2 (j : Int) with _ | _
        · have HC : Hid (keepV (j : Int) 2 = false) := Lib.hid (by simp [keepV, hkp])
          go_wp2_with (fail)
          refine (call_b (impl_KeepsKey_any (j : Int) 2 w1) HC.out).mono ?_
          rintro e w' ⟨rfl, rfl⟩
          go_wp2_with (fail)
          go_round
          case rel => exact ⟨j + 1, x, by omega, by omega, by first | rfl | go_num, by first | rfl | go_num, Lib.hid (by rw [cntN_no hkp, hc.out])⟩
          case measure => simp [intOf]; omega
        · have HC : Hid (keepV (j : Int) 2 = true) := Lib.hid (by simp [keepV, hkp, inR_t (show (0 : Int) ≤ (j : Int) by omega) hlt']; decide)
          go_wp2_with (fail)
          refine (call_b (impl_KeepsKey_any (j : Int) 2 w1) HC.out).mono ?_
          rintro e w' ⟨rfl, rfl⟩
          go_wp2_with (fail)
          go_round
          case rel => exact ⟨j + 1, x + 1, by omega, by omega, by first | rfl | go_num, by first | rfl | go_num, Lib.hid (by rw [cntN_yes hkp, hc.out])⟩
          case measure => simp [intOf]; omega
      · have hlt' : ¬ (j : Int) ≤ 255 := by omega
        obtain rfl : j = 256 := by omega
        have hcc := hc.out
        rw [cnt_2] at hcc
        subst hcc
        go_wp2_with (fail)
        refine (call_int (impl_GuessAll_any (128 : Int) 2 w1) (show guV 128 2 = 256 by decide)).mono ?_
        rintro e w' ⟨rfl, rfl⟩
        go_wp2_with (fail)
        go_ret
        exact ⟨ret_bool (by first | rfl | (simp; done) | (simp; omega)), B1.out⟩
  · skip
    obtain ⟨v, hv⟩ : ∃ v, guV k 3 = v := ⟨_, rfl⟩
    have HV := Lib.hid hv
    clear hv
    rcases Int.lt_or_le v 0 with hn | hn
    · skip
      go_wp2_with (fail)
      refine (call_int (impl_GuessAll_any k 3 w1) HV.out).mono ?_
      rintro e w' ⟨rfl, rfl⟩
      go_wp2_with (fail)
      refine (call_int (spec_GuessAll_any k 3 w1) HV.out).mono ?_
      rintro e w' ⟨rfl, rfl⟩
      go_wp2_with (fail)
      refine (call_int (spec_GuessAll_any k 3 w1) HV.out).mono ?_
      rintro e w' ⟨rfl, rfl⟩
      go_wp2_with (fail)
      go_ret
      exact ⟨ret_bool (by first | rfl | (simp; done) | (simp; omega)), B1.out⟩
    have hn' : ¬ v < 0 := by omega
    go_wp2_with (fail)
    refine (call_int (impl_GuessAll_any k 3 w1) HV.out).mono ?_
    rintro e w' ⟨rfl, rfl⟩
    go_wp2_with (fail)
    refine (call_int (spec_GuessAll_any k 3 w1) HV.out).mono ?_
    rintro e w' ⟨rfl, rfl⟩
    go_wp2_with (fail)
    refine (call_int (spec_GuessAll_any k 3 w1) HV.out).mono ?_
    rintro e w' ⟨rfl, rfl⟩
    go_wp2_with (fail)
    go_ret
    exact ⟨ret_bool (by first | rfl | (simp; done) | (simp; omega)), B1.out⟩
  · skip
    obtain ⟨v, hv⟩ : ∃ v, guV k 4 = v := ⟨_, rfl⟩
    have HV := Lib.hid hv
    rcases hk : inR k 0 200 with _ | _
    · have hv : v = -1 := by rw [← HV.out]; simp [guV, hk]
      subst hv
      clear hk
      go_wp2_with (fail)
      refine (call_int (impl_GuessAll_any k 4 w1) HV.out).mono ?_
      rintro e w' ⟨rfl, rfl⟩
      go_wp2_with (fail)
      refine (call_int (spec_GuessAll_any k 4 w1) HV.out).mono ?_
      rintro e w' ⟨rfl, rfl⟩
      go_wp2_with (fail)
      refine (call_int (spec_GuessAll_any k 4 w1) HV.out).mono ?_
      rintro e w' ⟨rfl, rfl⟩
      go_wp2_with (fail)
      go_ret
      exact ⟨ret_bool (by first | rfl | (simp; done) | (simp; omega)), B1.out⟩
    have k2 := inR_iff.1 hk
    have hr2 : inR 4 1 16 = true := by decide
    have hv2 : v = k * 4 := by rw [← HV.out]; simp [guV, hk, hr2]
    have hn : ¬ v < 0 := by omega
    clear hv hv2 hk k2 hr2
    go_wp2_with (fail)
    refine (call_int (impl_GuessAll_any k 4 w1) HV.out).mono ?_
    rintro e w' ⟨rfl, rfl⟩
    go_wp2_with (fail)
    refine (call_int (spec_GuessAll_any k 4 w1) HV.out).mono ?_
    rintro e w' ⟨rfl, rfl⟩
    go_wp2_with (fail)
    go_loop [6, 7] (fun q i => ∃ j x : Nat, j ≤ 256 ∧ x ≤ 256 ∧ i = .int .i64 (j : Int) ∧ q = .int .i64 (x : Int) ∧ Hid (cntN 4 j = x)) (fun _ i => 256 - (intOf i).toNat)
    case atStart => exact ⟨0, 0, by omega, by omega, rfl, rfl, Lib.hid rfl⟩
    case round =>
      obtain ⟨j, x, hj, hx, rfl, rfl, hc⟩ := hrel
      by_cases hlt : j ≤ 255
      · have hlt' : (j : Int) ≤ 255 := by omega
        have hxj := cntN_le 4 j
        rw [hc.out] at hxj
        rcases hkp : keepP 4 (j : Int) with _ | _
        · have HC : Hid (keepV (j : Int) 4 = false) := Lib.hid (by simp [keepV, hkp])
          go_wp2_with (fail)
          refine (call_b (impl_KeepsKey_any (j : Int) 4 w1) HC.out).mono ?_
          rintro e w' ⟨rfl, rfl⟩
          go_wp2_with (fail)
          go_round
          case rel => exact ⟨j + 1, x, by omega, by omega, by first | rfl | go_num, by first | rfl | go_num, Lib.hid (by rw [cntN_no hkp, hc.out])⟩
          case measure => simp [intOf]; omega
        · have HC : Hid (keepV (j : Int) 4 = true) := Lib.hid (by simp [keepV, hkp, inR_t (show (0 : Int) ≤ (j : Int) by omega) hlt']; decide)
          go_wp2_with (fail)
          refine (call_b (impl_KeepsKey_any (j : Int) 4 w1) HC.out).mono ?_
          rintro e w' ⟨rfl, rfl⟩
          go_wp2_with (fail)
          go_round
          case rel => exact ⟨j + 1, x + 1, by omega, by omega, by first | rfl | go_num, by first | rfl | go_num, Lib.hid (by rw [cntN_yes hkp, hc.out])⟩
          case measure => simp [intOf]; omega
      · have hlt' : ¬ (j : Int) ≤ 255 := by omega
        obtain rfl : j = 256 := by omega
        have hcc := hc.out
        rw [cnt_4] at hcc
        subst hcc
        go_wp2_with (fail)
        refine (call_int (impl_GuessAll_any (64 : Int) 4 w1) (show guV 64 4 = 256 by decide)).mono ?_
        rintro e w' ⟨rfl, rfl⟩
        go_wp2_with (fail)
        go_ret
        exact ⟨ret_bool (by first | rfl | (simp; done) | (simp; omega)), B1.out⟩
  · skip
    obtain ⟨v, hv⟩ : ∃ v, guV k 5 = v := ⟨_, rfl⟩
    have HV := Lib.hid hv
    clear hv
    rcases Int.lt_or_le v 0 with hn | hn
    · skip
      go_wp2_with (fail)
      refine (call_int (impl_GuessAll_any k 5 w1) HV.out).mono ?_
      rintro e w' ⟨rfl, rfl⟩
      go_wp2_with (fail)
      refine (call_int (spec_GuessAll_any k 5 w1) HV.out).mono ?_
      rintro e w' ⟨rfl, rfl⟩
      go_wp2_with (fail)
      refine (call_int (spec_GuessAll_any k 5 w1) HV.out).mono ?_
      rintro e w' ⟨rfl, rfl⟩
      go_wp2_with (fail)
      go_ret
      exact ⟨ret_bool (by first | rfl | (simp; done) | (simp; omega)), B1.out⟩
    have hn' : ¬ v < 0 := by omega
    go_wp2_with (fail)
    refine (call_int (impl_GuessAll_any k 5 w1) HV.out).mono ?_
    rintro e w' ⟨rfl, rfl⟩
    go_wp2_with (fail)
    refine (call_int (spec_GuessAll_any k 5 w1) HV.out).mono ?_
    rintro e w' ⟨rfl, rfl⟩
    go_wp2_with (fail)
    refine (call_int (spec_GuessAll_any k 5 w1) HV.out).mono ?_
    rintro e w' ⟨rfl, rfl⟩
    go_wp2_with (fail)
    go_ret
    exact ⟨ret_bool (by first | rfl | (simp; done) | (simp; omega)), B1.out⟩
  · skip
    obtain ⟨v, hv⟩ : ∃ v, guV k 6 = v := ⟨_, rfl⟩
    have HV := Lib.hid hv
    clear hv
    rcases Int.lt_or_le v 0 with hn | hn
    · skip
      go_wp2_with (fail)
      refine (call_int (impl_GuessAll_any k 6 w1) HV.out).mono ?_
      rintro e w' ⟨rfl, rfl⟩
      go_wp2_with (fail)
      refine (call_int (spec_GuessAll_any k 6 w1) HV.out).mono ?_
      rintro e w' ⟨rfl, rfl⟩
      go_wp2_with (fail)
      refine (call_int (spec_GuessAll_any k 6 w1) HV.out).mono ?_
      rintro e w' ⟨rfl, rfl⟩
      go_wp2_with (fail)
      go_ret
      exact ⟨ret_bool (by first | rfl | (simp; done) | (simp; omega)), B1.out⟩
    have hn' : ¬ v < 0 := by omega
    go_wp2_with (fail)
    refine (call_int (impl_GuessAll_any k 6 w1) HV.out).mono ?_
    rintro e w' ⟨rfl, rfl⟩
    go_wp2_with (fail)
    refine (call_int (spec_GuessAll_any k 6 w1) HV.out).mono ?_
    rintro e w' ⟨rfl, rfl⟩
    go_wp2_with (fail)
    refine (call_int (spec_GuessAll_any k 6 w1) HV.out).mono ?_
    rintro e w' ⟨rfl, rfl⟩
    go_wp2_with (fail)
    go_ret
    exact ⟨ret_bool (by first | rfl | (simp; done) | (simp; omega)), B1.out⟩
  · skip
    obtain ⟨v, hv⟩ : ∃ v, guV k 7 = v := ⟨_, rfl⟩
    have HV := Lib.hid hv
    clear hv
    rcases Int.lt_or_le v 0 with hn | hn
    · skip
      go_wp2_with (fail)
      refine (call_int (impl_GuessAll_any k 7 w1) HV.out).mono ?_
      rintro e w' ⟨rfl, rfl⟩
      go_wp2_with (fail)
      refine (call_int (spec_GuessAll_any k 7 w1) HV.out).mono ?_
      rintro e w' ⟨rfl, rfl⟩
      go_wp2_with (fail)
      refine (call_int (spec_GuessAll_any k 7 w1) HV.out).mono ?_
      rintro e w' ⟨rfl, rfl⟩
      go_wp2_with (fail)
      go_ret
      exact ⟨ret_bool (by first | rfl | (simp; done) | (simp; omega)), B1.out⟩
    have hn' : ¬ v < 0 := by omega
    go_wp2_with (fail)
    refine (call_int (impl_GuessAll_any k 7 w1) HV.out).mono ?_
    rintro e w' ⟨rfl, rfl⟩
    go_wp2_with (fail)
    refine (call_int (spec_GuessAll_any k 7 w1) HV.out).mono ?_
    rintro e w' ⟨rfl, rfl⟩
    go_wp2_with (fail)
    refine (call_int (spec_GuessAll_any k 7 w1) HV.out).mono ?_
    rintro e w' ⟨rfl, rfl⟩
    go_wp2_with (fail)
    go_ret
    exact ⟨ret_bool (by first | rfl | (simp; done) | (simp; omega)), B1.out⟩
  · skip
    obtain ⟨v, hv⟩ : ∃ v, guV k 8 = v := ⟨_, rfl⟩
    have HV := Lib.hid hv
    rcases hk : inR k 0 200 with _ | _
    · have hv : v = -1 := by rw [← HV.out]; simp [guV, hk]
      subst hv
      clear hk
      go_wp2_with (fail)
      refine (call_int (impl_GuessAll_any k 8 w1) HV.out).mono ?_
      rintro e w' ⟨rfl, rfl⟩
      go_wp2_with (fail)
      refine (call_int (spec_GuessAll_any k 8 w1) HV.out).mono ?_
      rintro e w' ⟨rfl, rfl⟩
      go_wp2_with (fail)
      refine (call_int (spec_GuessAll_any k 8 w1) HV.out).mono ?_
      rintro e w' ⟨rfl, rfl⟩
      go_wp2_with (fail)
      go_ret
      exact ⟨ret_bool (by first | rfl | (simp; done) | (simp; omega)), B1.out⟩
    have k2 := inR_iff.1 hk
    have hr2 : inR 8 1 16 = true := by decide
    have hv2 : v = k * 8 := by rw [← HV.out]; simp [guV, hk, hr2]
    have hn : ¬ v < 0 := by omega
    clear hv hv2 hk k2 hr2
    go_wp2_with (fail)
    refine (call_int (impl_GuessAll_any k 8 w1) HV.out).mono ?_
    rintro e w' ⟨rfl, rfl⟩
    go_wp2_with (fail)
    refine (call_int (spec_GuessAll_any k 8 w1) HV.out).mono ?_
    rintro e w' ⟨rfl, rfl⟩
    go_wp2_with (fail)
    go_loop [6, 7] (fun q i => ∃ j x : Nat, j ≤ 256 ∧ x ≤ 256 ∧ i = .int .i64 (j : Int) ∧ q = .int .i64 (x : Int) ∧ Hid (cntN 8 j = x)) (fun _ i => 256 - (intOf i).toNat)
    case atStart => exact ⟨0, 0, by omega, by omega, rfl, rfl, Lib.hid rfl⟩
    case round =>
      obtain ⟨j, x, hj, hx, rfl, rfl, hc⟩ := hrel
      by_cases hlt : j ≤ 255
      · have hlt' : (j : Int) ≤ 255 := by omega
        have hxj := cntN_le 8 j
        rw [hc.out] at hxj
        rcases hkp : keepP 8 (j : Int) with _ | _
        · have HC : Hid (keepV (j : Int) 8 = false) := Lib.hid (by simp [keepV, hkp])
          go_wp2_with (fail)
          refine (call_b (impl_KeepsKey_any (j : Int) 8 w1) HC.out).mono ?_
          rintro e w' ⟨rfl, rfl⟩
          go_wp2_with (fail)
          go_round
          case rel => exact ⟨j + 1, x, by omega, by omega, by first | rfl | go_num, by first | rfl | go_num, Lib.hid (by rw [cntN_no hkp, hc.out])⟩
          case measure => simp [intOf]; omega
        · have HC : Hid (keepV (j : Int) 8 = true) := Lib.hid (by simp [keepV, hkp, inR_t (show (0 : Int) ≤ (j : Int) by omega) hlt']; decide)
          go_wp2_with (fail)
          refine (call_b (impl_KeepsKey_any (j : Int) 8 w1) HC.out).mono ?_
          rintro e w' ⟨rfl, rfl⟩
          go_wp2_with (fail)
          go_round
          case rel => exact ⟨j + 1, x + 1, by omega, by omega, by first | rfl | go_num, by first | rfl | go_num, Lib.hid (by rw [cntN_yes hkp, hc.out])⟩
          case measure => simp [intOf]; omega
      · have hlt' : ¬ (j : Int) ≤ 255 := by omega
        obtain rfl : j = 256 := by omega
        have hcc := hc.out
        rw [cnt_8] at hcc
        subst hcc
        go_wp2_with (fail)
        refine (call_int (impl_GuessAll_any (32 : Int) 8 w1) (show guV 32 8 = 256 by decide)).mono ?_
        rintro e w' ⟨rfl, rfl⟩
        go_wp2_with (fail)
        go_ret
        exact ⟨ret_bool (by first | rfl | (simp; done) | (simp; omega)), B1.out⟩
  · skip
    obtain ⟨v, hv⟩ : ∃ v, guV k 9 = v := ⟨_, rfl⟩
    have HV := Lib.hid hv
    clear hv
    rcases Int.lt_or_le v 0 with hn | hn
    · skip
      go_wp2_with (fail)
      refine (call_int (impl_GuessAll_any k 9 w1) HV.out).mono ?_
      rintro e w' ⟨rfl, rfl⟩
      go_wp2_with (fail)
      refine (call_int (spec_GuessAll_any k 9 w1) HV.out).mono ?_
      rintro e w' ⟨rfl, rfl⟩
      go_wp2_with (fail)
      refine (call_int (spec_GuessAll_any k 9 w1) HV.out).mono ?_
      rintro e w' ⟨rfl, rfl⟩
      go_wp2_with (fail)
      go_ret
      exact ⟨ret_bool (by first | rfl | (simp; done) | (simp; omega)), B1.out⟩
    have hn' : ¬ v < 0 := by omega
    go_wp2_with (fail)
    refine (call_int (impl_GuessAll_any k 9 w1) HV.out).mono ?_
    rintro e w' ⟨rfl, rfl⟩
    go_wp2_with (fail)
    refine (call_int (spec_GuessAll_any k 9 w1) HV.out).mono ?_
    rintro e w' ⟨rfl, rfl⟩
    go_wp2_with (fail)
    refine (call_int (spec_GuessAll_any k 9 w1) HV.out).mono ?_
    rintro e w' ⟨rfl, rfl⟩
    go_wp2_with (fail)
    go_ret
    exact ⟨ret_bool (by first | rfl | (simp; done) | (simp; omega)), B1.out⟩
  · skip
    obtain ⟨v, hv⟩ : ∃ v, guV k 10 = v := ⟨_, rfl⟩
    have HV := Lib.hid hv
    clear hv
    rcases Int.lt_or_le v 0 with hn | hn
    · skip
      go_wp2_with (fail)
      refine (call_int (impl_GuessAll_any k 10 w1) HV.out).mono ?_
      rintro e w' ⟨rfl, rfl⟩
      go_wp2_with (fail)
      refine (call_int (spec_GuessAll_any k 10 w1) HV.out).mono ?_
      rintro e w' ⟨rfl, rfl⟩
      go_wp2_with (fail)
      refine (call_int (spec_GuessAll_any k 10 w1) HV.out).mono ?_
      rintro e w' ⟨rfl, rfl⟩
      go_wp2_with (fail)
      go_ret
      exact ⟨ret_bool (by first | rfl | (simp; done) | (simp; omega)), B1.out⟩
    have hn' : ¬ v < 0 := by omega
    go_wp2_with (fail)
    refine (call_int (impl_GuessAll_any k 10 w1) HV.out).mono ?_
    rintro e w' ⟨rfl, rfl⟩
    go_wp2_with (fail)
    refine (call_int (spec_GuessAll_any k 10 w1) HV.out).mono ?_
    rintro e w' ⟨rfl, rfl⟩
    go_wp2_with (fail)
    refine (call_int (spec_GuessAll_any k 10 w1) HV.out).mono ?_
    rintro e w' ⟨rfl, rfl⟩
    go_wp2_with (fail)
    go_ret
    exact ⟨ret_bool (by first | rfl | (simp; done) | (simp; omega)), B1.out⟩
  · skip
    obtain ⟨v, hv⟩ : ∃ v, guV k 11 = v := ⟨_, rfl⟩
    have HV := Lib.hid hv
    clear hv
    rcases Int.lt_or_le v 0 with hn | hn
    · skip
      go_wp2_with (fail)
      refine (call_int (impl_GuessAll_any k 11 w1) HV.out).mono ?_
      rintro e w' ⟨rfl, rfl⟩
      go_wp2_with (fail)
      refine (call_int (spec_GuessAll_any k 11 w1) HV.out).mono ?_
      rintro e w' ⟨rfl, rfl⟩
      go_wp2_with (fail)
      refine (call_int (spec_GuessAll_any k 11 w1) HV.out).mono ?_
      rintro e w' ⟨rfl, rfl⟩
      go_wp2_with (fail)
      go_ret
      exact ⟨ret_bool (by first | rfl | (simp; done) | (simp; omega)), B1.out⟩
    have hn' : ¬ v < 0 := by omega
    go_wp2_with (fail)
    refine (call_int (impl_GuessAll_any k 11 w1) HV.out).mono ?_
    rintro e w' ⟨rfl, rfl⟩
    go_wp2_with (fail)
    refine (call_int (spec_GuessAll_any k 11 w1) HV.out).mono ?_
    rintro e w' ⟨rfl, rfl⟩
    go_wp2_with (fail)
    refine (call_int (spec_GuessAll_any k 11 w1) HV.out).mono ?_
    rintro e w' ⟨rfl, rfl⟩
    go_wp2_with (fail)
    go_ret
    exact ⟨ret_bool (by first | rfl | (simp; done) | (simp; omega)), B1.out⟩
  · skip
    obtain ⟨v, hv⟩ : ∃ v, guV k 12 = v := ⟨_, rfl⟩
    have HV := Lib.hid hv
    clear hv
    rcases Int.lt_or_le v 0 with hn | hn
    · skip
      go_wp2_with (fail)
      refine (call_int (impl_GuessAll_any k 12 w1) HV.out).mono ?_
      rintro e w' ⟨rfl, rfl⟩
      go_wp2_with (fail)
      refine (call_int (spec_GuessAll_any k 12 w1) HV.out).mono ?_
      rintro e w' ⟨rfl, rfl⟩
      go_wp2_with (fail)
      refine (call_int (spec_GuessAll_any k 12 w1) HV.out).mono ?_
      rintro e w' ⟨rfl, rfl⟩
      go_wp2_with (fail)
      go_ret
      exact ⟨ret_bool (by first | rfl | (simp; done) | (simp; omega)), B1.out⟩
    have hn' : ¬ v < 0 := by omega
    go_wp2_with (fail)
    refine (call_int (impl_GuessAll_any k 12 w1) HV.out).mono ?_
    rintro e w' ⟨rfl, rfl⟩
    go_wp2_with (fail)
    refine (call_int (spec_GuessAll_any k 12 w1) HV.out).mono ?_
    rintro e w' ⟨rfl, rfl⟩
    go_wp2_with (fail)
    refine (call_int (spec_GuessAll_any k 12 w1) HV.out).mono ?_
    rintro e w' ⟨rfl, rfl⟩
    go_wp2_with (fail)
    go_ret
    exact ⟨ret_bool (by first | rfl | (simp; done) | (simp; omega)), B1.out⟩
  · skip
    obtain ⟨v, hv⟩ : ∃ v, guV k 13 = v := ⟨_, rfl⟩
    have HV := Lib.hid hv
    clear hv
    rcases Int.lt_or_le v 0 with hn | hn
    · skip
      go_wp2_with (fail)
      refine (call_int (impl_GuessAll_any k 13 w1) HV.out).mono ?_
      rintro e w' ⟨rfl, rfl⟩
      go_wp2_with (fail)
      refine (call_int (spec_GuessAll_any k 13 w1) HV.out).mono ?_
      rintro e w' ⟨rfl, rfl⟩
      go_wp2_with (fail)
      refine (call_int (spec_GuessAll_any k 13 w1) HV.out).mono ?_
      rintro e w' ⟨rfl, rfl⟩
      go_wp2_with (fail)
      go_ret
      exact ⟨ret_bool (by first | rfl | (simp; done) | (simp; omega)), B1.out⟩
    have hn' : ¬ v < 0 := by omega
    go_wp2_with (fail)
    refine (call_int (impl_GuessAll_any k 13 w1) HV.out).mono ?_
    rintro e w' ⟨rfl, rfl⟩
    go_wp2_with (fail)
    refine (call_int (spec_GuessAll_any k 13 w1) HV.out).mono ?_
    rintro e w' ⟨rfl, rfl⟩
    go_wp2_with (fail)
    refine (call_int (spec_GuessAll_any k 13 w1) HV.out).mono ?_
    rintro e w' ⟨rfl, rfl⟩
    go_wp2_with (fail)
    go_ret
    exact ⟨ret_bool (by first | rfl | (simp; done) | (simp; omega)), B1.out⟩
  · skip
    obtain ⟨v, hv⟩ : ∃ v, guV k 14 = v := ⟨_, rfl⟩
    have HV := Lib.hid hv
    clear hv
    rcases Int.lt_or_le v 0 with hn | hn
    · skip
      go_wp2_with (fail)
      refine (call_int (impl_GuessAll_any k 14 w1) HV.out).mono ?_
      rintro e w' ⟨rfl, rfl⟩
      go_wp2_with (fail)
      refine (call_int (spec_GuessAll_any k 14 w1) HV.out).mono ?_
      rintro e w' ⟨rfl, rfl⟩
      go_wp2_with (fail)
      refine (call_int (spec_GuessAll_any k 14 w1) HV.out).mono ?_
      rintro e w' ⟨rfl, rfl⟩
      go_wp2_with (fail)
      go_ret
      exact ⟨ret_bool (by first | rfl | (simp; done) | (simp; omega)), B1.out⟩
    have hn' : ¬ v < 0 := by omega
    go_wp2_with (fail)
    refine (call_int (impl_GuessAll_any k 14 w1) HV.out).mono ?_
    rintro e w' ⟨rfl, rfl⟩
    go_wp2_with (fail)
    refine (call_int (spec_GuessAll_any k 14 w1) HV.out).mono ?_
    rintro e w' ⟨rfl, rfl⟩
    go_wp2_with (fail)
    refine (call_int (spec_GuessAll_any k 14 w1) HV.out).mono ?_
    rintro e w' ⟨rfl, rfl⟩
    go_wp2_with (fail)
    go_ret
    exact ⟨ret_bool (by first | rfl | (simp; done) | (simp; omega)), B1.out⟩
  · skip
    obtain ⟨v, hv⟩ : ∃ v, guV k 15 = v := ⟨_, rfl⟩
    have HV := Lib.hid hv
    clear hv
    rcases Int.lt_or_le v 0 with hn | hn
    · skip
      go_wp2_with (fail)
      refine (call_int (impl_GuessAll_any k 15 w1) HV.out).mono ?_
      rintro e w' ⟨rfl, rfl⟩
      go_wp2_with (fail)
      refine (call_int (spec_GuessAll_any k 15 w1) HV.out).mono ?_
      rintro e w' ⟨rfl, rfl⟩
      go_wp2_with (fail)
      refine (call_int (spec_GuessAll_any k 15 w1) HV.out).mono ?_
      rintro e w' ⟨rfl, rfl⟩
      go_wp2_with (fail)
      go_ret
      exact ⟨ret_bool (by first | rfl | (simp; done) | (simp; omega)), B1.out⟩
    have hn' : ¬ v < 0 := by omega
    go_wp2_with (fail)
    refine (call_int (impl_GuessAll_any k 15 w1) HV.out).mono ?_
    rintro e w' ⟨rfl, rfl⟩
    go_wp2_with (fail)
    refine (call_int (spec_GuessAll_any k 15 w1) HV.out).mono ?_
    rintro e w' ⟨rfl, rfl⟩
    go_wp2_with (fail)
    refine (call_int (spec_GuessAll_any k 15 w1) HV.out).mono ?_
    rintro e w' ⟨rfl, rfl⟩
    go_wp2_with (fail)
    go_ret
    exact ⟨ret_bool (by first | rfl | (simp; done) | (simp; omega)), B1.out⟩
  · skip
    obtain ⟨v, hv⟩ : ∃ v, guV k 16 = v := ⟨_, rfl⟩
    have HV := Lib.hid hv
    rcases hk : inR k 0 200 with _ | _
    · have hv : v = -1 := by rw [← HV.out]; simp [guV, hk]
      subst hv
      clear hk
      go_wp2_with (fail)
      refine (call_int (impl_GuessAll_any k 16 w1) HV.out).mono ?_
      rintro e w' ⟨rfl, rfl⟩
      go_wp2_with (fail)
      refine (call_int (spec_GuessAll_any k 16 w1) HV.out).mono ?_
      rintro e w' ⟨rfl, rfl⟩
      go_wp2_with (fail)
      refine (call_int (spec_GuessAll_any k 16 w1) HV.out).mono ?_
      rintro e w' ⟨rfl, rfl⟩
      go_wp2_with (fail)
      go_ret
      exact ⟨ret_bool (by first | rfl | (simp; done) | (simp; omega)), B1.out⟩
    have k2 := inR_iff.1 hk
    have hr2 : inR 16 1 16 = true := by decide
    have hv2 : v = k * 16 := by rw [← HV.out]; simp [guV, hk, hr2]
    have hn : ¬ v < 0 := by omega
    clear hv hv2 hk k2 hr2
    go_wp2_with (fail)
    refine (call_int (impl_GuessAll_any k 16 w1) HV.out).mono ?_
    rintro e w' ⟨rfl, rfl⟩
    go_wp2_with (fail)
    refine (call_int (spec_GuessAll_any k 16 w1) HV.out).mono ?_
    rintro e w' ⟨rfl, rfl⟩
    go_wp2_with (fail)
    go_loop [6, 7] (fun q i => ∃ j x : Nat, j ≤ 256 ∧ x ≤ 256 ∧ i = .int .i64 (j : Int) ∧ q = .int .i64 (x : Int) ∧ Hid (cntN 16 j = x)) (fun _ i => 256 - (intOf i).toNat)
    case atStart => exact ⟨0, 0, by omega, by omega, rfl, rfl, Lib.hid rfl⟩
    case round =>
      obtain ⟨j, x, hj, hx, rfl, rfl, hc⟩ := hrel
      by_cases hlt : j ≤ 255
      · have hlt' : (j : Int) ≤ 255 := by omega
        have hxj := cntN_le 16 j
        rw [hc.out] at hxj
        rcases hkp : keepP 16 (j : Int) with _ | _
        · have HC : Hid (keepV (j : Int) 16 = false) := Lib.hid (by simp [keepV, hkp])
          go_wp2_with (fail)
          refine (call_b (impl_KeepsKey_any (j : Int) 16 w1) HC.out).mono ?_
          rintro e w' ⟨rfl, rfl⟩
          go_wp2_with (fail)
          go_round
          case rel => exact ⟨j + 1, x, by omega, by omega, by first | rfl | go_num, by first | rfl | go_num, Lib.hid (by rw [cntN_no hkp, hc.out])⟩
          case measure => simp [intOf]; omega
        · have HC : Hid (keepV (j : Int) 16 = true) := Lib.hid (by simp [keepV, hkp, inR_t (show (0 : Int) ≤ (j : Int) by omega) hlt']; decide)
          go_wp2_with (fail)
          refine (call_b (impl_KeepsKey_any (j : Int) 16 w1) HC.out).mono ?_
          rintro e w' ⟨rfl, rfl⟩
          go_wp2_with (fail)
          go_round
          case rel => exact ⟨j + 1, x + 1, by omega, by omega, by first | rfl | go_num, by first | rfl | go_num, Lib.hid (by rw [cntN_yes hkp, hc.out])⟩
          case measure => simp [intOf]; omega
      · have hlt' : ¬ (j : Int) ≤ 255 := by omega
        obtain rfl : j = 256 := by omega
        have hcc := hc.out
        rw [cnt_16] at hcc
        subst hcc
        go_wp2_with (fail)
        refine (call_int (impl_GuessAll_any (16 : Int) 16 w1) (show guV 16 16 = 256 by decide)).mono ?_
        rintro e w' ⟨rfl, rfl⟩
        go_wp2_with (fail)
        go_ret
        exact ⟨ret_bool (by first | rfl | (simp; done) | (simp; omega)), B1.out⟩
  · skip
    obtain ⟨v, hv⟩ : ∃ v, guV k 17 = v := ⟨_, rfl⟩
    have HV := Lib.hid hv
    clear hv
    rcases Int.lt_or_le v 0 with hn | hn
    · skip
      go_wp2_with (fail)
      refine (call_int (impl_GuessAll_any k 17 w1) HV.out).mono ?_
      rintro e w' ⟨rfl, rfl⟩
      go_wp2_with (fail)
      refine (call_int (spec_GuessAll_any k 17 w1) HV.out).mono ?_
      rintro e w' ⟨rfl, rfl⟩
      go_wp2_with (fail)
      refine (call_int (spec_GuessAll_any k 17 w1) HV.out).mono ?_
      rintro e w' ⟨rfl, rfl⟩
      go_wp2_with (fail)
      go_ret
      exact ⟨ret_bool (by first | rfl | (simp; done) | (simp; omega)), B1.out⟩
    exfalso
    have := HV.out
    simp [guV, inR] at this
    omega
end Go.Proofs.Ytbadgnekailnaaa
