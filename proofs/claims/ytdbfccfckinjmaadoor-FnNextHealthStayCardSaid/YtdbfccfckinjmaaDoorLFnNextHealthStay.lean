/-
  The walk of FnNextHealthStay. (Its words were written by a program of my own.)
-/
import Derived.Test.YtdbfccfckinjmaaDoorDrawMk
import Derived.Test.YtdbfccfckinjmaaDoorHp
import Derived.Test.YtdbfccfckinjmaaDoorMkN
import Derived.Deep.RegionHeld3
import Derived.Lib.MinMax
import Derived.Deep.DeepMust
import Derived.Deep.DeepCutAuto
namespace Go.Proofs.YtdbfccfckinjmaaDoor
open Go.RowKit
-- CALL: W s0 wa0
set_option maxHeartbeats 1600000 in
theorem walk_FnNextHealthStay {A : Option Addr} {n c' : Nat} {zs : List Int} (w : World) (h : BS w A n c' zs) (ha : HA w) :
    Calls Tryd.prog 8 #[.slice A n c'] w fun e w' => e = .returned (.bool true) ∧ Below w.heap.size w w' := by
  have H := Lib.hid h
  have T0 := Lib.hid ha
  clear h ha
  rcases Nat.lt_or_ge 1048576 n with h1 | h1
  · have h1' : (1048576 : Int) < (n : Int) := by omega
    go_enter Tryd.func8, Tryd.ntmps8
    go_wp2_with (fail)
    go_ret
    exact ⟨rfl, Below.refl _ _⟩
  have h1' : ¬ (1048576 : Int) < (n : Int) := by omega
  go_enter Tryd.func8, Tryd.ntmps8
  go_wp2_with (fail)
  refine (spec_DrawNextHealth_any w H.out h1).mono ?_
  rintro e w1 ⟨a, b, c, d, h, x, rfl, ⟨a0, a1⟩, ⟨b0, b1⟩, ⟨c0, c1⟩, ⟨d0, d1⟩, ⟨hh0, hh1⟩, ⟨hx0, hx1⟩, hb⟩
  have B1 := Lib.hid hb
  have hz1 := B1.out.size
  clear hb 
  replace B1 := Lib.hid (B1.out.alloc B1.out.size (.cells #[.int .i64 a, .int .i64 b, .int .i64 c, .int .i64 d] 25))
  have Q := Lib.hid (Blk.new w1 25 #[.int .i64 a, .int .i64 b, .int .i64 c, .int .i64 d])
  obtain ⟨v, hv⟩ : ∃ v, nhV a b c d h x = v := ⟨_, rfl⟩
  have hvb := nhV_bd a b c d h x
  rw [hv] at hvb
  have HV := Lib.hid hv
  clear hv
  by_cases h0 : v < 0
  · skip
    obtain ⟨q0, q1, q2, q3⟩ := Q.out.c4
    go_wp2_with (fail)
    refine (call_int (impl_NextHealth_any a b c d h x _ (T0.out.below B1.out (Nat.le_refl _))) HV.out).mono ?_
    clear q0 q1 q2 q3
    rintro e w2 ⟨rfl, hb⟩
    replace Q := Lib.hid (Q.out.on hb)
    replace B1 := Lib.hid (B1.out.trans (hb.mono B1.out.size))
    clear hb
    obtain ⟨q0, q1, q2, q3⟩ := Q.out.c4
    go_wp2_with (fail)
    refine (call_int (spec_NextHealth_any a b c d h x _) HV.out).mono ?_
    clear q0 q1 q2 q3
    rintro e w3 ⟨rfl, hb⟩
    replace Q := Lib.hid (Q.out.on hb)
    replace B1 := Lib.hid (B1.out.trans (hb.mono B1.out.size))
    clear hb
    obtain ⟨q0, q1, q2, q3⟩ := Q.out.c4
    go_wp2_with (fail)
    refine (call_int (spec_NextHealth_any a b c d h x _) HV.out).mono ?_
    clear q0 q1 q2 q3
    rintro e w4 ⟨rfl, hb⟩
    replace Q := Lib.hid (Q.out.on hb)
    replace B1 := Lib.hid (B1.out.trans (hb.mono B1.out.size))
    clear hb
    go_wp2_with (fail)
    go_ret
    exact ⟨ret_bool (by first | rfl | (simp; done) | (simp; omega)), B1.out⟩
  have h0n : ¬ v < 0 := h0
  clear h0
  have HM : Hid (mkV a b c d = true) := Lib.hid (by
    rcases h : mkV a b c d with _ | _
    · have := HV.out; simp [nhV, h] at this; omega
    · rfl)
  have HH : Hid (inR h 0 2 = true) := Lib.hid (by
    rcases h' : inR h 0 2 with _ | _
    · have := HV.out; simp [nhV, h'] at this; omega
    · rfl)
  have HX : Hid (inR x 0 100 = true) := Lib.hid (by
    rcases h' : inR x 0 100 with _ | _
    · have := HV.out; simp [nhV, h'] at this; omega
    · rfl)
  have HN : Hid (nhN a b c d h x = v) := Lib.hid (by have := HV.out; rwa [nhV_t HM.out HH.out HX.out] at this)
  have hh := inR_iff.1 HH.out
  have hx := inR_iff.1 HX.out
  have hml := mkV_in HM.out
  by_cases hax : a ≤ x
  · by_cases hxb : x < b
    · skip
      have HQ : Hid (v = min h 1) := Lib.hid (by have h1 := nh_slow HM.out hh.1 hh.2 hax hxb; rwa [HN.out] at h1)
      obtain ⟨q0, q1, q2, q3⟩ := Q.out.c4
      go_wp2_with (fail)
      refine (call_int (impl_NextHealth_any a b c d h x _ (T0.out.below B1.out (Nat.le_refl _))) HV.out).mono ?_
      clear q0 q1 q2 q3
      rintro e w2 ⟨rfl, hb⟩
      replace Q := Lib.hid (Q.out.on hb)
      replace B1 := Lib.hid (B1.out.trans (hb.mono B1.out.size))
      clear hb
      obtain ⟨q0, q1, q2, q3⟩ := Q.out.c4
      go_wp2_with (fail)
      refine (call_int (spec_NextHealth_any a b c d h x _) HV.out).mono ?_
      clear q0 q1 q2 q3
      rintro e w3 ⟨rfl, hb⟩
      replace Q := Lib.hid (Q.out.on hb)
      replace B1 := Lib.hid (B1.out.trans (hb.mono B1.out.size))
      clear hb
      obtain ⟨q0, q1, q2, q3⟩ := Q.out.c4
      go_wp2_with (fail)
      go_ret
      exact ⟨ret_bool (by first | (have hq := HQ.out; simp [hq]; done) | rfl | (simp; done)), B1.out⟩
    have hxb' : ¬ x < b := hxb
    clear hxb
    by_cases hcx : c ≤ x
    · by_cases hxd : x < d
      · skip
        have HQ : Hid (v = max h 1) := Lib.hid (by have h1 := nh_full HM.out hh.1 hh.2 hcx hxd; rwa [HN.out] at h1)
        obtain ⟨q0, q1, q2, q3⟩ := Q.out.c4
        go_wp2_with (fail)
        refine (call_int (impl_NextHealth_any a b c d h x _ (T0.out.below B1.out (Nat.le_refl _))) HV.out).mono ?_
        clear q0 q1 q2 q3
        rintro e w2 ⟨rfl, hb⟩
        replace Q := Lib.hid (Q.out.on hb)
        replace B1 := Lib.hid (B1.out.trans (hb.mono B1.out.size))
        clear hb
        obtain ⟨q0, q1, q2, q3⟩ := Q.out.c4
        go_wp2_with (fail)
        refine (call_int (spec_NextHealth_any a b c d h x _) HV.out).mono ?_
        clear q0 q1 q2 q3
        rintro e w3 ⟨rfl, hb⟩
        replace Q := Lib.hid (Q.out.on hb)
        replace B1 := Lib.hid (B1.out.trans (hb.mono B1.out.size))
        clear hb
        obtain ⟨q0, q1, q2, q3⟩ := Q.out.c4
        go_wp2_with (fail)
        go_ret
        exact ⟨ret_bool (by first | (have hq := HQ.out; simp [hq]; done) | rfl | (simp; done)), B1.out⟩
      have hxd' : ¬ x < d := hxd
      clear hxd
      skip
      obtain ⟨q0, q1, q2, q3⟩ := Q.out.c4
      go_wp2_with (fail)
      refine (call_int (impl_NextHealth_any a b c d h x _ (T0.out.below B1.out (Nat.le_refl _))) HV.out).mono ?_
      clear q0 q1 q2 q3
      rintro e w2 ⟨rfl, hb⟩
      replace Q := Lib.hid (Q.out.on hb)
      replace B1 := Lib.hid (B1.out.trans (hb.mono B1.out.size))
      clear hb
      obtain ⟨q0, q1, q2, q3⟩ := Q.out.c4
      go_wp2_with (fail)
      refine (call_int (spec_NextHealth_any a b c d h x _) HV.out).mono ?_
      clear q0 q1 q2 q3
      rintro e w3 ⟨rfl, hb⟩
      replace Q := Lib.hid (Q.out.on hb)
      replace B1 := Lib.hid (B1.out.trans (hb.mono B1.out.size))
      clear hb
      obtain ⟨q0, q1, q2, q3⟩ := Q.out.c4
      go_wp2_with (fail)
      go_ret
      exact ⟨ret_bool (by first | rfl | (simp; done)), B1.out⟩
    have hcx' : decide (c ≤ x) = false := by simp; omega
    skip
    obtain ⟨q0, q1, q2, q3⟩ := Q.out.c4
    go_wp2_with (fail)
    refine (call_int (impl_NextHealth_any a b c d h x _ (T0.out.below B1.out (Nat.le_refl _))) HV.out).mono ?_
    clear q0 q1 q2 q3
    rintro e w2 ⟨rfl, hb⟩
    replace Q := Lib.hid (Q.out.on hb)
    replace B1 := Lib.hid (B1.out.trans (hb.mono B1.out.size))
    clear hb
    obtain ⟨q0, q1, q2, q3⟩ := Q.out.c4
    go_wp2_with (fail)
    refine (call_int (spec_NextHealth_any a b c d h x _) HV.out).mono ?_
    clear q0 q1 q2 q3
    rintro e w3 ⟨rfl, hb⟩
    replace Q := Lib.hid (Q.out.on hb)
    replace B1 := Lib.hid (B1.out.trans (hb.mono B1.out.size))
    clear hb
    obtain ⟨q0, q1, q2, q3⟩ := Q.out.c4
    go_wp2_with (fail)
    go_ret
    exact ⟨ret_bool (by first | rfl | (simp; done)), B1.out⟩
  have hax' : decide (a ≤ x) = false := by simp; omega
  have hcx' : decide (c ≤ x) = false := by simp; omega
  obtain ⟨q0, q1, q2, q3⟩ := Q.out.c4
  go_wp2_with (fail)
  refine (call_int (impl_NextHealth_any a b c d h x _ (T0.out.below B1.out (Nat.le_refl _))) HV.out).mono ?_
  clear q0 q1 q2 q3
  rintro e w2 ⟨rfl, hb⟩
  replace Q := Lib.hid (Q.out.on hb)
  replace B1 := Lib.hid (B1.out.trans (hb.mono B1.out.size))
  clear hb
  obtain ⟨q0, q1, q2, q3⟩ := Q.out.c4
  go_wp2_with (fail)
  refine (call_int (spec_NextHealth_any a b c d h x _) HV.out).mono ?_
  clear q0 q1 q2 q3
  rintro e w3 ⟨rfl, hb⟩
  replace Q := Lib.hid (Q.out.on hb)
  replace B1 := Lib.hid (B1.out.trans (hb.mono B1.out.size))
  clear hb
  obtain ⟨q0, q1, q2, q3⟩ := Q.out.c4
  go_wp2_with (fail)
  go_ret
  exact ⟨ret_bool (by first | rfl | (simp; done) | (simp; omega)), B1.out⟩
end Go.Proofs.YtdbfccfckinjmaaDoor
