/-
  The walk of FnCanShed. (Its words were written by a program of my own.)
-/
import Derived.Test.YtdmkimgjochibaaGenR
import Derived.Test.YtdmkimgjochibaaQuR
import Derived.Deep.RegionHeld3
import Derived.Deep.DeepMust
import Derived.Deep.DeepCutAuto
namespace Go.Proofs.Ytdmkimgjochibaa
open Go.RowKit
-- CALL: W s0
set_option maxHeartbeats 8000000 in
theorem walk_FnCanShed {A : Option Addr} {n c : Nat} {zs : List Int} (w : World) (h : BS w A n c zs) :
    Calls Try.prog 10 #[.slice A n c] w fun e w' => e = .returned (.bool true) ∧ Below w.heap.size w w' := by
  have H := Lib.hid h
  clear h
  rcases Nat.lt_or_ge 1048576 n with h1 | h1
  · have h1' : (1048576 : Int) < (n : Int) := by omega
    go_enter Try.func10, Try.ntmps10
    go_wp2_with (fail)
    go_ret
    exact ⟨rfl, Below.refl _ _⟩
  have h1' : ¬ (1048576 : Int) < (n : Int) := by omega
  go_enter Try.func10, Try.ntmps10
  go_wp2_with (fail)
  refine (spec_DrawCanShed_any w H.out h1).mono ?_
  rintro e w1 ⟨xs, A1, n1, c1, a, rfl, hn1, ha, i1, hbl⟩
  have T1 := Lib.hid i1
  have B1 := Lib.hid hbl
  have HXL := Lib.hid i1.len
  clear i1 hbl
  obtain ⟨v, hv⟩ : ∃ v, canShed xs a = v := ⟨_, rfl⟩
  have HV := Lib.hid hv
  clear hv
  have hvv : (v != v) = false := by simp
  have hvw : (v == v) = true := by simp
  go_wp2_with (fail)
  refine (call_int (impl_CanShed_any a w1 T1.out) HV.out).mono ?_
  rintro e w2 ⟨rfl, hb⟩
  have B2 := Lib.hid (B1.out.trans (hb.mono B1.out.size))
  have T2 := Lib.hid (T1.out.below hb (Nat.le_refl _))
  clear hb
  by_cases hneg : v < 0
  · go_wp2_with (fail)
    refine (call_int (spec_CanShed_any a w2 T2.out) HV.out).mono ?_
    rintro e w3 ⟨rfl, hb⟩
    have B3 := Lib.hid (B2.out.trans (hb.mono B2.out.size))
    have T3 := Lib.hid (T2.out.below hb (Nat.le_refl _))
    clear hb
    go_wp2_with (fail)
    refine (call_int (spec_CanShed_any a w3 T3.out) HV.out).mono ?_
    rintro e w4 ⟨rfl, hb⟩
    have B4 := Lib.hid (B3.out.trans (hb.mono B3.out.size))
    clear hb
    go_wp2_with (fail)
    go_ret
    exact ⟨rfl, B4.out⟩
  obtain ⟨hok, hcl⟩ := canShed_ok (by rw [HV.out]; exact hneg)
  have HS := Lib.hid (canShed_t hok hcl)
  obtain ⟨hcl0, hcl1⟩ := inR_iff.1 hcl
  have HC := Lib.hid (fun x hx => ((validE_iff.1 hok).at_ (x := x) hx).2.2)
  have HB := Lib.hid (fun x hx => ((validE_iff.1 hok).at_ (x := x) hx).2.1)
  have HE := Lib.hid hok
  clear hcl hok
  go_wp2_with (fail)
  refine (call_int (spec_CanShed_any a w2 T2.out) HV.out).mono ?_
  rintro e w3 ⟨rfl, hb⟩
  have B3 := Lib.hid (B2.out.trans (hb.mono B2.out.size))
  have T3 := Lib.hid (T2.out.below hb (Nat.le_refl _))
  have hz3 := B3.out.size
  clear hb
  obtain ⟨s, hs⟩ : ∃ s, szE xs = s := ⟨_, rfl⟩
  have HZ := Lib.hid hs
  have hsb := szE_bd HC.out
  rw [hs, HXL.out] at hsb
  clear hs
  have hle : v ≤ s := by rw [← HV.out, HS.out, ← HZ.out]; exact shedB_le HC.out a
  have hv0 : 0 ≤ v := by omega
  rcases Int.lt_or_le a 2 with h2 | h2
  · have h2' : (a == 2) = false := by simp; omega
    obtain ⟨u, hu⟩ : ∃ u, canShed xs (a + 1) = u := ⟨_, rfl⟩
    have hmono : u ≤ v := by
      rw [← HV.out, HS.out, ← hu, canShed_t HE.out (inR_iff.2 ⟨by omega, by omega⟩)]
      exact shedB_mono HC.out a
    have HU := Lib.hid hu
    clear hu
    go_wp2_with (fail)
    refine (call_int (laws_sizeOf_any w3 T3.out HC.out (by omega)) HZ.out).mono ?_
    rintro e w4 ⟨rfl, rfl⟩
    have hwa : IntKind.i64.wrap (a + 1) = a + 1 := by rw [IntKind.wrap_i64]; omega
    go_wp2_with (fail)
    refine (call_int (impl_CanShed_any (a + 1) w3 T3.out) HU.out).mono ?_
    rintro e w5 ⟨rfl, hb⟩
    have B5 := Lib.hid (B3.out.trans (hb.mono hz3))
    clear hb
    go_wp2_with (fail)
    go_ret
    exact ⟨rfl, B5.out⟩
  · obtain rfl : a = 2 := by omega
    have hv2 : v = 0 := by rw [← HV.out, HS.out]; exact shedB_two HB.out
    have hv2' : (v == 0) = true := by simp [hv2]
    clear hv2
    go_wp2_with (fail)
    refine (call_int (laws_sizeOf_any w3 T3.out HC.out (by omega)) HZ.out).mono ?_
    rintro e w4 ⟨rfl, rfl⟩
    go_wp2_with (fail)
    go_ret
    exact ⟨rfl, B3.out⟩
end Go.Proofs.Ytdmkimgjochibaa
