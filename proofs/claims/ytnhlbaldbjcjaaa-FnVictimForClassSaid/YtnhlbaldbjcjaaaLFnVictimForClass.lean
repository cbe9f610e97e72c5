/-
  The walk of FnVictimForClass. (Its words were written by a program of my own.)
-/
import Derived.Test.YtnhlbaldbjcjaaaGenR
import Derived.Test.YtnhlbaldbjcjaaaVicS
import Derived.Test.YtnhlbaldbjcjaaaVicN
import Derived.Deep.RegionHeld3
import Derived.Deep.DeepMust
import Derived.Deep.DeepCutAuto
namespace Go.Proofs.Ytnhlbaldbjcjaaa
open Go.RowKit
-- CALL: W s0
set_option maxHeartbeats 1600000 in
theorem walk_FnVictimForClass {A : Option Addr} {n c : Nat} {zs : List Int} (w : World) (h : BS w A n c zs) :
    Calls Try.prog 5 #[.slice A n c] w fun e w' => e = .returned (.bool true) ∧ Below w.heap.size w w' := by
  have H := Lib.hid h
  clear h
  rcases Nat.lt_or_ge 1048576 n with h1 | h1
  · have h1' : (1048576 : Int) < (n : Int) := by omega
    go_enter Try.func5, Try.ntmps5
    go_wp2_with (fail)
    go_ret
    exact ⟨rfl, Below.refl _ _⟩
  have h1' : ¬ (1048576 : Int) < (n : Int) := by omega
  go_enter Try.func5, Try.ntmps5
  go_wp2_with (fail)
  refine (spec_DrawVictimFor_any w H.out h1).mono ?_
  rintro e w1 ⟨xs, A1, n1, c1, a, rfl, hn1, ha, i1, hb⟩
  have T := Lib.hid i1
  have B1 := Lib.hid hb
  have hz1 := B1.out.size
  clear hb i1
  have HXL := Lib.hid T.out.len
  have hcap1 := T.out.cap
  obtain ⟨v, hv⟩ : ∃ v, victimV xs a = v := ⟨_, rfl⟩
  have hvb := victim_bd xs a
  rw [hv] at hvb
  have HV := Lib.hid hv
  clear hv
  by_cases h0 : a < 0 ∨ 3 ≤ a + 1
  · skip
    have hw1 : IntKind.i64.wrap (a + 1) = a + 1 := by rw [IntKind.wrap_i64]; omega
    by_cases h1 : a < 0
    · skip
      go_wp2_with (fail)
      refine (call_int (impl_VictimFor_any a _ T.out) HV.out).mono ?_
      rintro e w2 ⟨rfl, hb⟩
      replace T := Lib.hid (T.out.below hb (Nat.le_refl _))
      replace B1 := Lib.hid (B1.out.trans (hb.mono B1.out.size))
      clear hb
      go_wp2_with (fail)
      refine (call_int (spec_VictimFor_any a _ T.out) HV.out).mono ?_
      rintro e w3 ⟨rfl, hb⟩
      replace T := Lib.hid (T.out.below hb (Nat.le_refl _))
      replace B1 := Lib.hid (B1.out.trans (hb.mono B1.out.size))
      clear hb
      go_wp2_with (fail)
      refine (call_int (spec_VictimFor_any a _ T.out) HV.out).mono ?_
      rintro e w4 ⟨rfl, hb⟩
      replace T := Lib.hid (T.out.below hb (Nat.le_refl _))
      replace B1 := Lib.hid (B1.out.trans (hb.mono B1.out.size))
      clear hb
      go_wp2_with (fail)
      go_ret
      exact ⟨ret_bool (by first | rfl | (simp; done) | (simp; omega)), B1.out⟩
    have h2 : (3 : Int) ≤ a + 1 := by omega
    go_wp2_with (fail)
    refine (call_int (impl_VictimFor_any a _ T.out) HV.out).mono ?_
    rintro e w2 ⟨rfl, hb⟩
    replace T := Lib.hid (T.out.below hb (Nat.le_refl _))
    replace B1 := Lib.hid (B1.out.trans (hb.mono B1.out.size))
    clear hb
    go_wp2_with (fail)
    refine (call_int (spec_VictimFor_any a _ T.out) HV.out).mono ?_
    rintro e w3 ⟨rfl, hb⟩
    replace T := Lib.hid (T.out.below hb (Nat.le_refl _))
    replace B1 := Lib.hid (B1.out.trans (hb.mono B1.out.size))
    clear hb
    go_wp2_with (fail)
    refine (call_int (spec_VictimFor_any a _ T.out) HV.out).mono ?_
    rintro e w4 ⟨rfl, hb⟩
    replace T := Lib.hid (T.out.below hb (Nat.le_refl _))
    replace B1 := Lib.hid (B1.out.trans (hb.mono B1.out.size))
    clear hb
    go_wp2_with (fail)
    go_ret
    exact ⟨ret_bool (by first | rfl | (simp; done) | (simp; omega)), B1.out⟩
  have h1 : ¬ a < 0 := by omega
  have h2 : ¬ (3 : Int) ≤ a + 1 := by omega
  have hw1 : IntKind.i64.wrap (a + 1) = a + 1 := by rw [IntKind.wrap_i64]; omega
  obtain ⟨u, hu⟩ : ∃ u, victimV xs (a + 1) = u := ⟨_, rfl⟩
  have huv : u = v ∨ u = -1 := by
    have h3 := HV.out
    rcases h4 : validE xs with _ | _
    · rw [victimV_f (.inl h4)] at h3 hu; omega
    · rw [victimV_t h4 (inR_t (by omega) (by omega))] at h3 hu
      have := vic_class xs a
      omega
  have HU := Lib.hid hu
  clear hu h0
  go_wp2_with (fail)
  refine (call_int (impl_VictimFor_any a _ T.out) HV.out).mono ?_
  rintro e w2 ⟨rfl, hb⟩
  replace T := Lib.hid (T.out.below hb (Nat.le_refl _))
  replace B1 := Lib.hid (B1.out.trans (hb.mono B1.out.size))
  clear hb
  go_wp2_with (fail)
  refine (call_int (spec_VictimFor_any a _ T.out) HV.out).mono ?_
  rintro e w3 ⟨rfl, hb⟩
  replace T := Lib.hid (T.out.below hb (Nat.le_refl _))
  replace B1 := Lib.hid (B1.out.trans (hb.mono B1.out.size))
  clear hb
  go_wp2_with (fail)
  refine (call_int (impl_VictimFor_any (a + 1) _ T.out) HU.out).mono ?_
  rintro e w4 ⟨rfl, hb⟩
  replace T := Lib.hid (T.out.below hb (Nat.le_refl _))
  replace B1 := Lib.hid (B1.out.trans (hb.mono B1.out.size))
  clear hb
  by_cases he : u = v
  · have he' : (u == v) = true := by simp [he]
    clear he huv
    go_wp2_with (fail)
    go_ret
    exact ⟨ret_bool (by first | rfl | (simp; done)), B1.out⟩
  have he' : (u == v) = false := by simp [he]
  have he2 : (u == -1) = true := by simp; omega
  clear he huv
  go_wp2_with (fail)
  go_ret
  exact ⟨ret_bool (by first | rfl | (simp; done) | (simp; omega)), B1.out⟩
end Go.Proofs.Ytnhlbaldbjcjaaa
