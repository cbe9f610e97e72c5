/-
  The walk of FnCanShedAll. (Its words were written by a program of my own.)
-/
import Derived.Test.YtdmkimgjochibaaGenR
import Derived.Test.YtdmkimgjochibaaQuR
import Derived.Deep.RegionHeld3
import Derived.Deep.DeepMust
import Derived.Deep.DeepCutAuto
namespace Go.Proofs.Ytdmkimgjochibaa
open Go.RowKit
-- CALL: W s0
set_option maxHeartbeats 8000000 in
theorem walk_FnCanShedAll {A : Option Addr} {n c : Nat} {zs : List Int} (w : World) (h : BS w A n c zs) :
    Calls Try.prog 11 #[.slice A n c] w fun e w' => e = .returned (.bool true) ∧ Below w.heap.size w w' := by
  have H := Lib.hid h
  clear h
  rcases Nat.lt_or_ge 1048576 n with h1 | h1
  · have h1' : (1048576 : Int) < (n : Int) := by omega
    go_enter Try.func11, Try.ntmps11
    go_wp2_with (fail)
    go_ret
    exact ⟨rfl, Below.refl _ _⟩
  have h1' : ¬ (1048576 : Int) < (n : Int) := by omega
  go_enter Try.func11, Try.ntmps11
  go_wp2_with (fail)
  refine (spec_DrawCanShed_any w H.out h1).mono ?_
  rintro e w1 ⟨xs, A1, n1, c1, a, rfl, hn1, ha, i1, hbl⟩
  have T1 := Lib.hid i1
  have B1 := Lib.hid hbl
  have HXL := Lib.hid i1.len
  clear i1 hbl
  obtain ⟨v, hv⟩ : ∃ v, canShed xs a = v := ⟨_, rfl⟩
  have HV := Lib.hid hv
  clear hv
  have hvv : (v != v) = false := by simp
  have hvw : (v == v) = true := by simp
  go_wp2_with (fail)
  refine (call_int (impl_CanShed_any a w1 T1.out) HV.out).mono ?_
  rintro e w2 ⟨rfl, hb⟩
  have B2 := Lib.hid (B1.out.trans (hb.mono B1.out.size))
  have T2 := Lib.hid (T1.out.below hb (Nat.le_refl _))
  clear hb
  by_cases hneg : v < 0
  · go_wp2_with (fail)
    refine (call_int (spec_CanShed_any a w2 T2.out) HV.out).mono ?_
    rintro e w3 ⟨rfl, hb⟩
    have B3 := Lib.hid (B2.out.trans (hb.mono B2.out.size))
    have T3 := Lib.hid (T2.out.below hb (Nat.le_refl _))
    clear hb
    go_wp2_with (fail)
    refine (call_int (spec_CanShed_any a w3 T3.out) HV.out).mono ?_
    rintro e w4 ⟨rfl, hb⟩
    have B4 := Lib.hid (B3.out.trans (hb.mono B3.out.size))
    clear hb
    go_wp2_with (fail)
    go_ret
    exact ⟨rfl, B4.out⟩
  obtain ⟨hok, hcl⟩ := canShed_ok (by rw [HV.out]; exact hneg)
  have HS := Lib.hid (canShed_t hok hcl)
  obtain ⟨hcl0, hcl1⟩ := inR_iff.1 hcl
  have HC := Lib.hid (fun x hx => ((validE_iff.1 hok).at_ (x := x) hx).2.2)
  have HB := Lib.hid (fun x hx => ((validE_iff.1 hok).at_ (x := x) hx).2.1)
  have HE := Lib.hid hok
  clear hcl hok
  go_wp2_with (fail)
  refine (call_int (spec_CanShed_any a w2 T2.out) HV.out).mono ?_
  rintro e w3 ⟨rfl, hb⟩
  have B3 := Lib.hid (B2.out.trans (hb.mono B2.out.size))
  have T3 := Lib.hid (T2.out.below hb (Nat.le_refl _))
  have hz3 := B3.out.size
  clear hb
  obtain ⟨s, hs⟩ : ∃ s, szE xs = s := ⟨_, rfl⟩
  have HZ := Lib.hid hs
  have hsb := szE_bd HC.out
  rw [hs, HXL.out] at hsb
  clear hs
  go_wp2_with (fail)
  go_loop [6, 7] (fun t i => ∃ (k : Nat) (m : Int), k ≤ n1 ∧ 0 ≤ m ∧ m ≤ 20 * (k : Int) ∧ i = .int .i64 k ∧ t = .int .i64 m ∧ Hid (bytesC (xs.take k) 0 = m)) (fun _ i => n1 - (intOf i).toNat)
  case atStart => exact ⟨0, 0, Nat.zero_le _, by omega, by omega, rfl, rfl, Lib.hid (by simp [bytesC])⟩
  case round =>
    obtain ⟨k, m, hk, hm0, hm1, rfl, rfl, hac⟩ := hrel
    by_cases hlt : k < n1
    · obtain ⟨b, off, x, rfl, hx, ca, cb, cc⟩ := T3.out.at_ hlt
      obtain ⟨hv0, hv1⟩ := HC.out x (List.mem_of_getElem? hx)
      have HX := Lib.hid (bytesC_next hx 0)
      have hki : (k : Int) < (n1 : Int) := by omega
      clear hx
      by_cases hx0 : x.b = 0
      · have hd : (x.b == 0) = true := by simpa using hx0
        go_wp2_with (fail)
        go_round
        case rel => exact ⟨k + 1, m + x.c, by omega, by omega, by omega, by go_num, by go_num, Lib.hid (by rw [HX.out, hac.out, if_pos hx0])⟩
        case measure => simp [intOf]; omega
      · have hd : (x.b == 0) = false := by simpa using hx0
        go_wp2_with (fail)
        go_round
        case rel => exact ⟨k + 1, m, by omega, by omega, by omega, by go_num, rfl, Lib.hid (by rw [HX.out, hac.out, if_neg hx0]; omega)⟩
        case measure => simp [intOf]; omega
    · have hki : ¬ (k : Int) < (n1 : Int) := by omega
      have ht := hac.out
      rw [List.take_of_length_le (by have := HXL.out; omega)] at ht
      obtain ⟨u, hu⟩ : ∃ u, canShed xs 0 = u := ⟨_, rfl⟩
      have hsum : u + m = s := by
        rw [← hu, ← ht, ← HZ.out, canShed_t HE.out (inR_iff.2 ⟨by omega, by omega⟩)]
        exact shedB_own HB.out
      have hu0 : 0 ≤ u := by
        rw [← hu, canShed_t HE.out (inR_iff.2 ⟨by omega, by omega⟩)]
        exact (shedB_bd HC.out 0).1
      have hwr : IntKind.i64.wrap (u + m) = s := by rw [IntKind.wrap_i64]; omega
      have HU := Lib.hid hu
      clear hu ht
      go_wp2_with (fail)
      refine (call_int (impl_CanShed_any 0 w3 T3.out) HU.out).mono ?_
      rintro e w5 ⟨rfl, hb⟩
      have B5 := Lib.hid (B3.out.trans (hb.mono hz3))
      have T5 := Lib.hid (T3.out.below hb (Nat.le_refl _))
      clear hb
      go_wp2_with (fail)
      refine (call_int (laws_sizeOf_any w5 T5.out HC.out (by omega)) HZ.out).mono ?_
      rintro e w6 ⟨rfl, rfl⟩
      go_wp2_with (fail)
      go_ret
      exact ⟨rfl, B5.out⟩
end Go.Proofs.Ytdmkimgjochibaa
