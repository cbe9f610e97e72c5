/-
  The walk of FnFillOfOne. (Its words were written by a program of my own.)
-/
import Derived.Test.YtpodfjblojmkeaaDrawC
import Derived.Test.YtpodfjblojmkeaaCuR
import Derived.Deep.RegionHeld3
import Derived.Deep.DeepMust
import Derived.Deep.DeepCutAuto
namespace Go.Proofs.Ytpodfjblojmkeaa
open Go.RowKit
-- CALL: W s0
set_option maxHeartbeats 8000000 in
theorem walk_FnFillOfOne {A : Option Addr} {n c : Nat} {zs : List Int} (w : World) (h : BS w A n c zs) :
    Calls Try.prog 14 #[.slice A n c] w fun e w' => e = .returned (.bool true) ∧ Below w.heap.size w w' := by
  have H := Lib.hid h
  clear h
  rcases Nat.lt_or_ge 1048576 n with h1 | h1
  · have h1' : (1048576 : Int) < (n : Int) := by omega
    go_enter Try.func14, Try.ntmps14
    go_wp2_with (fail)
    go_ret
    exact ⟨rfl, Below.refl _ _⟩
  have h1' : ¬ (1048576 : Int) < (n : Int) := by omega
  go_enter Try.func14, Try.ntmps14
  go_wp2_with (fail)
  refine (spec_DrawFillOf_any w H.out h1).mono ?_
  rintro e w1 ⟨xs, A1, n1, c1, a, m, rfl, hn14, ⟨a0, a1⟩, ⟨m0, m1⟩, i1, hbl⟩
  have T1 := Lib.hid i1
  have B1 := Lib.hid hbl
  have HXL := Lib.hid i1.len
  clear i1 hbl
  obtain ⟨v, hv⟩ : ∃ v, fillV xs a m = v := ⟨_, rfl⟩
  have HV := Lib.hid hv
  clear hv
  go_wp2_with (fail)
  refine (call_int (impl_FillOf_any a m w1 T1.out) HV.out).mono ?_
  rintro e w2 ⟨rfl, hb⟩
  have B2 := Lib.hid (B1.out.trans (hb.mono B1.out.size))
  replace T1 := Lib.hid (T1.out.below hb (Nat.le_refl _))
  clear hb
  rcases Int.lt_or_le v 0 with hneg | hneg
  · skip
    go_wp2_with (fail)
    refine (call_int (spec_FillOf_any a m w2 T1.out) HV.out).mono ?_
    rintro e w3 ⟨rfl, hb⟩
    have B3 := Lib.hid (B2.out.trans (hb.mono B2.out.size))
    replace T1 := Lib.hid (T1.out.below hb (Nat.le_refl _))
    clear hb
    go_wp2_with (fail)
    refine (call_int (spec_FillOf_any a m w3 T1.out) HV.out).mono ?_
    rintro e w4 ⟨rfl, hb⟩
    have B4 := Lib.hid (B3.out.trans (hb.mono B3.out.size))
    replace T1 := Lib.hid (T1.out.below hb (Nat.le_refl _))
    clear hb
    go_wp2_with (fail)
    go_ret
    exact ⟨ret_bool (by simp), B4.out⟩
  have hneg2 : ¬ v < 0 := by omega
  have hok : cutOK xs a m = true := by
    rcases h : cutOK xs a m with _ | _
    · have := HV.out
      rw [fill_no h] at this
      omega
    · rfl
  rcases Nat.eq_zero_or_pos n1 with hz | hz
  · have hz0 : ((n1 : Int) == 0) = true := by simp; omega
    clear hok hz
    go_wp2_with (fail)
    refine (call_int (spec_FillOf_any a m w2 T1.out) HV.out).mono ?_
    rintro e w3 ⟨rfl, hb⟩
    have B3 := Lib.hid (B2.out.trans (hb.mono B2.out.size))
    replace T1 := Lib.hid (T1.out.below hb (Nat.le_refl _))
    clear hb
    go_wp2_with (fail)
    refine (call_int (spec_FillOf_any a m w3 T1.out) HV.out).mono ?_
    rintro e w4 ⟨rfl, hb⟩
    have B4 := Lib.hid (B3.out.trans (hb.mono B3.out.size))
    replace T1 := Lib.hid (T1.out.below hb (Nat.le_refl _))
    clear hb
    go_wp2_with (fail)
    go_ret
    exact ⟨ret_bool (by simp), B4.out⟩
  have hz0 : ((n1 : Int) == 0) = false := by simp; omega
  obtain ⟨x, hx1⟩ : ∃ x, xs.take 1 = [x] ∧ xs[0]? = some x := by
    have hl := HXL.out
    cases xs with
    | nil => simp at hl; omega
    | cons y l => exact ⟨y, by simp, by simp⟩
  obtain ⟨hx1, hx0⟩ := hx1
  have hcons : ∃ l, xs = x :: l := by
    cases xs with
    | nil => simp at hx0
    | cons y l => simp at hx0; exact ⟨l, by rw [hx0]⟩
  have hfo : fillV (xs.take 1) a m = 100 * x / a := by
    obtain ⟨l, rfl⟩ := hcons
    rw [hx1]
    exact fill_one hok
  have hfn : fillV [] a m = 100 := by
    refine fill_nil ?_
    obtain ⟨_, _, h3, h4⟩ := cut_in hok
    simp [cutOK, allR, h3, h4]
  have hab := inR_iff.1 (cut_in hok).2.2.1
  have hxb := allR_at hx0 (cut_in hok).2.1
  obtain ⟨hab0, hab1⟩ := hab
  obtain ⟨hxb0, hxb1⟩ := hxb
  have HFO := Lib.hid hfo
  have HFN := Lib.hid hfn
  have HX0 := Lib.hid hx0
  clear hfo hfn hx0 hx1 hcons hok
  go_wp2_with (fail)
  refine (call_int (spec_FillOf_any a m w2 T1.out) HV.out).mono ?_
  rintro e w3 ⟨rfl, hb⟩
  have B3 := Lib.hid (B2.out.trans (hb.mono B2.out.size))
  replace T1 := Lib.hid (T1.out.below hb (Nat.le_refl _))
  clear hb
  obtain ⟨b, off, x', rfl, hx, hc⟩ := T1.out.at_ (k := 0) (by omega)
  rw [HX0.out] at hx
  obtain rfl : x = x' := by injection hx
  rw [Nat.add_zero] at hc
  clear hx
  have hcc := T1.out.2.1
  have hc1 : (1 : Int) ≤ (c1 : Int) := by omega
  have hw1 : IntKind.i64.wrap (100 * x) = 100 * x := by rw [IntKind.wrap_i64]; omega
  have haz : (a == 0) = false := by simp; omega
  have haz2 : ¬ a = 0 := by omega
  have hqd : Int.tdiv (100 * x) a = 100 * x / a := Int.tdiv_eq_ediv_of_nonneg (by omega)
  have hq0 : 0 ≤ 100 * x / a := Int.ediv_nonneg (by omega) (by omega)
  have hq1 : 100 * x / a ≤ 2000 := by
    have := Int.ediv_le_self (a := 100 * x) a (by omega)
    omega
  have hwd : IntKind.i64.wrap (100 * x / a) = 100 * x / a := by rw [IntKind.wrap_i64]; omega
  have hwt : IntKind.i64.wrap (Int.tdiv (100 * x) a) = 100 * x / a := by rw [hqd]; exact hwd
  have F1 := Lib.hid (T1.out.first (K := 1) (by omega))
  have C1 := Lib.hid (call_int (impl_FillOf_any a m w3.drew F1.out.drew) HFO.out)
  go_wp2_with (fail)
  go_region_held3 (fun w' => w'.cell? ⟨b, off, none⟩ = some (.int .i64 x)) (first | exact S2 | exact S1 | go_keep) (first
    | (go_at_call 27; refine C1.out.mono ?_; rintro e w4 ⟨rfl, hb4⟩; clear C1; have HB4 := Lib.hid hb4; clear hb4; have S1 := cell_up HB4.out (show w3.drew.cell? ⟨b, off, none⟩ = some (.int .i64 x) from hc); have B4 := Lib.hid (B3.out.drew.trans (HB4.out.mono B3.out.size)); have C2 := Lib.hid (call_int (impl_FillOf_any a m w4 (IS.nil w4)) HFN.out))
    | (go_at_call 27; refine C2.out.mono ?_; rintro e w5 ⟨rfl, hb5⟩; clear C2; have HB5 := Lib.hid hb5; clear hb5; have S2 := cell_up HB5.out S1; have B5 := Lib.hid (B4.out.trans (HB5.out.mono B4.out.size))))
  all_goals (go_wp2_with (fail); go_ret; exact ⟨ret_bool (by first | rfl | (simp; done)), B5.out⟩)
end Go.Proofs.Ytpodfjblojmkeaa
