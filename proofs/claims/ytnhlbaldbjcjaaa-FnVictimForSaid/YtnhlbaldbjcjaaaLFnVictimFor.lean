/-
  The walk of FnVictimFor. (Its words were written by a program of my own.)
-/
import Derived.Test.YtnhlbaldbjcjaaaGenR
import Derived.Test.YtnhlbaldbjcjaaaVicS
import Derived.Test.YtnhlbaldbjcjaaaVicN
import Derived.Deep.RegionHeld3
import Derived.BigQuiet
import Derived.Deep.DeepMust
import Derived.Deep.DeepCutAuto
namespace Go.Proofs.Ytnhlbaldbjcjaaa
open Go.RowKit
-- CALL: W s0
set_option maxRecDepth 100000 in
set_option maxHeartbeats 1600000 in
theorem walk_FnVictimFor {A : Option Addr} {n c : Nat} {zs : List Int} (w : World) (h : BS w A n c zs) :
    Calls Try.prog 3 #[.slice A n c] w fun e w' => e = .returned (.bool true) ∧ Below w.heap.size w w' := by
  have H := Lib.hid h
  clear h
  rcases Nat.lt_or_ge 1048576 n with h1 | h1
  · have h1' : (1048576 : Int) < (n : Int) := by omega
    go_enter Try.func3, Try.ntmps3
    go_wp2_with (fail)
    go_ret
    exact ⟨rfl, Below.refl _ _⟩
  have h1' : ¬ (1048576 : Int) < (n : Int) := by omega
  go_enter Try.func3, Try.ntmps3
  go_wp2_with (fail)
  refine (spec_DrawVictimFor_any w H.out h1).mono ?_
  rintro e w1 ⟨xs, A1, n1, c1, a, rfl, hn1, ha, i1, hb⟩
  have T := Lib.hid i1
  have B1 := Lib.hid hb
  have hz1 := B1.out.size
  clear hb i1
  have HXL := Lib.hid T.out.len
  have hcap1 := T.out.cap
  obtain ⟨v, hv⟩ : ∃ v, victimV xs a = v := ⟨_, rfl⟩
  have hvb := victim_bd xs a
  rw [hv] at hvb
  have HV := Lib.hid hv
  clear hv
  by_cases h0 : v < 0
  · skip
    go_wp2_with (fail)
    refine (call_int (impl_VictimFor_any a _ T.out) HV.out).mono ?_
    rintro e w2 ⟨rfl, hb⟩
    replace T := Lib.hid (T.out.below hb (Nat.le_refl _))
    replace B1 := Lib.hid (B1.out.trans (hb.mono B1.out.size))
    clear hb
    go_wp2_with (fail)
    refine (call_int (spec_VictimFor_any a _ T.out) HV.out).mono ?_
    rintro e w3 ⟨rfl, hb⟩
    replace T := Lib.hid (T.out.below hb (Nat.le_refl _))
    replace B1 := Lib.hid (B1.out.trans (hb.mono B1.out.size))
    clear hb
    go_wp2_with (fail)
    refine (call_int (spec_VictimFor_any a _ T.out) HV.out).mono ?_
    rintro e w4 ⟨rfl, hb⟩
    replace T := Lib.hid (T.out.below hb (Nat.le_refl _))
    replace B1 := Lib.hid (B1.out.trans (hb.mono B1.out.size))
    clear hb
    go_wp2_with (fail)
    go_ret
    exact ⟨ret_bool (by first | rfl | (simp; done) | (simp; omega)), B1.out⟩
  have h0n : ¬ v < 0 := h0
  clear h0
  have hvn : ¬ (n1 : Int) ≤ v := by have := HXL.out; omega
  have HE : Hid (validE xs = true ∧ vicV xs a = v) := Lib.hid (by
    rcases h1 : validE xs with _ | _
    · have := HV.out; rw [victimV_f (.inl h1)] at this; omega
    rcases h2 : inR a 0 2 with _ | _
    · have := HV.out; rw [victimV_f (.inr h2)] at this; omega
    exact ⟨rfl, by rw [← victimV_t h1 h2]; exact HV.out⟩)
  obtain ⟨k, x, rfl, hx, hax, hall⟩ := vic_at HE.out.1 HE.out.2 (by omega)
  have HALL := Lib.hid hall
  have hkn : k < n1 := by omega
  have hnk : ¬ n1 ≤ k := by omega
  have hnk2 : decide (n1 ≤ k) = false := by simp; omega
  have hk0 : (0 : Int) ≤ (k : Int) := by omega
  have hk1 : (k : Int) < (n1 : Int) := by omega
  have HKX := Lib.hid hx
  clear hall hx
  go_wp2_with (fail)
  refine (call_int (impl_VictimFor_any a _ T.out) HV.out).mono ?_
  rintro e w2 ⟨rfl, hb⟩
  replace T := Lib.hid (T.out.below hb (Nat.le_refl _))
  replace B1 := Lib.hid (B1.out.trans (hb.mono B1.out.size))
  clear hb
  go_wp2_with (fail)
  refine (call_int (spec_VictimFor_any a _ T.out) HV.out).mono ?_
  rintro e w3 ⟨rfl, hb⟩
  replace T := Lib.hid (T.out.below hb (Nat.le_refl _))
  replace B1 := Lib.hid (B1.out.trans (hb.mono B1.out.size))
  clear hb
  have e0 := T.out.at_ hkn
  obtain ⟨g, off, x', rfl, hx', ca, cb, cc⟩ := e0
  obtain rfl : x = x' := by have h := HKX.out; rw [hx'] at h; exact (Option.some.inj h).symm
  clear hx' ca cc
  have hdx : decide (a < x.b) = true := by simp; omega
  go_wp2_with (fail)
  go_loopw [6] (fun i wr => ∃ (j mm : Nat), j ≤ n1 ∧ i = .int .i64 (j : Int) ∧ wr = w3.drewN mm) (fun i _ => n1 - (intOf i).toNat)
  case atStart => exact ⟨0, 0, Nat.zero_le _, rfl, rfl⟩
  case round =>
    obtain ⟨j, mm, hj, rfl, rfl⟩ := hrel
    by_cases hlt : j < n1
    · have hlt' : (j : Int) < (n1 : Int) := by omega
      have hj0 : (0 : Int) ≤ (j : Int) := by omega
      obtain ⟨_, _, y, e0, hy, _, yb, _⟩ := T.out.at_ hlt
      simp only [Option.some.injEq, Addr.mk.injEq, and_true] at e0
      obtain ⟨rfl, rfl⟩ := e0
      obtain ⟨h1, h2⟩ := HALL.out j y hy
      have hgt : decide (x.b < y.b) = false := by simp; omega
      clear hy
      by_cases he : y.b = x.b
      · have he' : (y.b == x.b) = true := by simp [he]
        have hjk : ¬ j < k := by have := h2 he; omega
        have hjk2 : decide (j < k) = false := by simp; omega
        have hjk3 : ¬ (j : Int) < (k : Int) := by omega
        clear he h1 h2
        obtain ⟨u, hu⟩ : ∃ u, y.b = u := ⟨_, rfl⟩
        rw [hu] at hgt he' yb
        clear hu
        go_wp2_with (fail)
        go_quiet (fail)
        go_wp2_with (fail)
        go_roundw
        case rel => first | exact ⟨j + 1, _, by omega, by first | rfl | go_num, by first | rfl | exact World.drewN_drewN _ _ _⟩ | exact ⟨_, _, _, _, _, _, _, _, _, _, _, _, _, _, _, _, _, _, _, _, _, _, _, _, _, _, _, _, _, _, _, _, _, _, _, _, _, ⟨j + 1, _, by omega, by first | rfl | go_num, by first | rfl | exact World.drewN_drewN _ _ _⟩, rfl⟩
        case measure => simp [intOf]; omega
      · have he' : (y.b == x.b) = false := by simp [he]
        clear he h1 h2
        obtain ⟨u, hu⟩ : ∃ u, y.b = u := ⟨_, rfl⟩
        rw [hu] at hgt he' yb
        clear hu
        go_wp2_with (fail)
        go_quiet (fail)
        go_wp2_with (fail)
        go_roundw
        case rel => exact ⟨j + 1, _, by omega, by first | rfl | go_num, by first | rfl | exact World.drewN_drewN _ _ _⟩
        case measure => simp [intOf]; omega
    · have hlt' : ¬ (j : Int) < (n1 : Int) := by omega
      go_wp2_with (fail)
      go_ret
      exact ⟨ret_bool (by first | rfl | (simp; done) | (simp; omega)), by first | exact B1.out | exact below_drewN B1.out _⟩
end Go.Proofs.Ytnhlbaldbjcjaaa
