/-
  The walk of FnUnackedOverShort. (Its words were written by a program of my own.)
-/
import Derived.Test.YthbdcindhkjboaaLawL
import Derived.Test.YthbdcindhkjboaaLawO
import Derived.Test.YthbdcindhkjboaaLiV
import Derived.Test.YthbdcindhkjboaaLiU
import Derived.Deep.RegionHeld3
import Derived.Deep.DrawnRows
import Derived.Deep.QuietTactic
import Derived.Lib.QuietBelow
import Derived.BigQuiet
import Derived.Deep.DeepMust
import Derived.Deep.DeepCutAuto
namespace Go.Proofs.Ythbdcindhkjboaa
open Go.RowKit
-- CALL: W s0
set_option maxHeartbeats 1600000 in
theorem walk_FnUnackedOverShort {A : Option Addr} {n c : Nat} {zs : List Int} (w : World) (h : BS w A n c zs) :
    Calls Try.prog 5 #[.slice A n c] w fun e w' => e = .returned (.bool true) ∧ Below w.heap.size w w' := by
  have H := Lib.hid h
  clear h
  rcases Nat.lt_or_ge 1048576 n with h1 | h1
  · have h1' : (1048576 : Int) < (n : Int) := by omega
    go_enter Try.func5, Try.ntmps5
    go_wp2_with (fail)
    go_ret
    exact ⟨rfl, Below.refl _ _⟩
  have h1' : ¬ (1048576 : Int) < (n : Int) := by omega
  go_enter Try.func5, Try.ntmps5
  go_wp2_with (fail)
  refine (spec_DrawUnackedOver_any w H.out h1).mono ?_
  rintro e w1 ⟨xs, A1, n1, c1, m, rfl, hn1, ⟨hm0, hm1⟩, hi, hb⟩
  have I1 := Lib.hid hi
  have B1 := Lib.hid hb
  have hz1 := B1.out.size
  clear hb hi
  have HXL := Lib.hid I1.out.len
  obtain ⟨os, eo⟩ : ∃ v, uakV xs m = v := ⟨_, rfl⟩
  have HO := Lib.hid eo
  clear eo
  go_wp2_with (fail)
  refine (q_at (impl_UnackedOver_any m _ I1.out) HO.out).mono ?_
  rintro e w2 ⟨A2, n2, c2, rfl, ho, hb⟩
  have hb7 := hb
  replace I1 := Lib.hid (I1.out.below hb7 (Nat.le_refl _))
  replace B1 := Lib.hid (B1.out.trans (hb7.mono B1.out.size))
  have I2 := Lib.hid ho.is
  clear ho hb hb7
  go_wp2_with (fail)
  refine (ints_at (spec_UnackedOver_any m _ I1.out) HO.out).mono ?_
  rintro e w3 ⟨A3, n3, c3, rfl, ho, hb⟩
  have hb7 := hb
  replace I1 := Lib.hid (I1.out.below hb7 (Nat.le_refl _))
  replace I2 := Lib.hid (I2.out.below hb7 (Nat.le_refl _))
  replace B1 := Lib.hid (B1.out.trans (hb7.mono B1.out.size))
  have I3 := Lib.hid ho.is
  clear ho hb hb7
  go_wp2_with (fail)
  refine (equalInts_same _ I2.out I3.out).mono ?_
  rintro e w4 ⟨rfl, hb⟩
  replace I1 := Lib.hid (I1.out.below hb (Nat.le_refl _))
  replace I2 := Lib.hid (I2.out.below hb (Nat.le_refl _))
  replace I3 := Lib.hid (I3.out.below hb (Nat.le_refl _))
  replace B1 := Lib.hid (B1.out.trans (hb.mono B1.out.size))
  clear hb
  by_cases h0 : n1 = 0
  · subst h0
    go_wp2_with (fail)
    refine (ints_at (spec_UnackedOver_any m _ I1.out) HO.out).mono ?_
    rintro e w5 ⟨A4, n4, c4, rfl, ho, hb⟩
    have hb7 := hb
    replace I1 := Lib.hid (I1.out.below hb7 (Nat.le_refl _))
    replace I2 := Lib.hid (I2.out.below hb7 (Nat.le_refl _))
    replace I3 := Lib.hid (I3.out.below hb7 (Nat.le_refl _))
    replace B1 := Lib.hid (B1.out.trans (hb7.mono B1.out.size))
    have I4 := Lib.hid ho.is
    clear ho hb hb7
    go_wp2_with (fail)
    refine (equalInts_same _ I2.out I4.out).mono ?_
    rintro e w6 ⟨rfl, hb⟩
    replace I1 := Lib.hid (I1.out.below hb (Nat.le_refl _))
    replace I2 := Lib.hid (I2.out.below hb (Nat.le_refl _))
    replace I3 := Lib.hid (I3.out.below hb (Nat.le_refl _))
    replace I4 := Lib.hid (I4.out.below hb (Nat.le_refl _))
    replace B1 := Lib.hid (B1.out.trans (hb.mono B1.out.size))
    clear hb
    go_wp2_with (fail)
    go_ret
    exact ⟨ret_bool (rfl), B1.out⟩
  have h0' : ((n1 : Int) == 0) = false := by simp; omega
  by_cases h2 : n2 = 0
  · subst h2
    go_wp2_with (fail)
    refine (ints_at (spec_UnackedOver_any m _ I1.out) HO.out).mono ?_
    rintro e w5 ⟨A4, n4, c4, rfl, ho, hb⟩
    have hb7 := hb
    replace I1 := Lib.hid (I1.out.below hb7 (Nat.le_refl _))
    replace I2 := Lib.hid (I2.out.below hb7 (Nat.le_refl _))
    replace I3 := Lib.hid (I3.out.below hb7 (Nat.le_refl _))
    replace B1 := Lib.hid (B1.out.trans (hb7.mono B1.out.size))
    have I4 := Lib.hid ho.is
    clear ho hb hb7
    go_wp2_with (fail)
    refine (equalInts_same _ I2.out I4.out).mono ?_
    rintro e w6 ⟨rfl, hb⟩
    replace I1 := Lib.hid (I1.out.below hb (Nat.le_refl _))
    replace I2 := Lib.hid (I2.out.below hb (Nat.le_refl _))
    replace I3 := Lib.hid (I3.out.below hb (Nat.le_refl _))
    replace I4 := Lib.hid (I4.out.below hb (Nat.le_refl _))
    replace B1 := Lib.hid (B1.out.trans (hb.mono B1.out.size))
    clear hb
    go_wp2_with (fail)
    go_ret
    exact ⟨ret_bool (rfl), B1.out⟩
  have h2' : ((n2 : Int) == 0) = false := by simp; omega
  have HK := Lib.hid (show okK xs m = true by
    rcases h : okK xs m with _ | _
    · have h5 := I2.out.len; rw [← HO.out, uak_f h] at h5; simp at h5; omega
    · rfl)
  obtain ⟨K, eK⟩ : ∃ K, n1 - 1 = K := ⟨_, rfl⟩
  have hK1 : K + 1 = n1 := by omega
  obtain ⟨s1, s2⟩ := uak_short HK.out (k := K) (by rw [HXL.out]; exact hK1)
  obtain ⟨bs, eb⟩ : ∃ v, uakV (xs.take K) m = v := ⟨_, rfl⟩
  rw [eb] at s1 s2
  rw [HO.out] at s1 s2
  have HB := Lib.hid eb
  have HS1 := Lib.hid s1
  have HS2 := Lib.hid s2
  obtain ⟨b, off, _, rfl, _, _⟩ := I1.out.at_ (k := 0) (by omega)
  have hwK : IntKind.i64.wrap ((n1 : Int) - 1) = (K : Int) := by rw [IntKind.wrap_i64]; omega
  have hKi : (0 : Int) ≤ (K : Int) := by omega
  have hnc := I1.out.2.1
  have hKc : (K : Int) ≤ (c1 : Int) := by omega
  have hKn : (K : Int) ≤ (n1 : Int) := by omega
  have IK := Lib.hid (I1.out.upto (m := K) (by omega))
  clear eK eb s1 s2
  go_wp2_with (fail)
  refine (q_at (impl_UnackedOver_any m _ IK.out) HB.out).mono ?_
  rintro e w5 ⟨A5, n5, c5, rfl, ho, hb⟩
  have hb7 := hb
  replace I1 := Lib.hid (I1.out.below hb7 (Nat.le_refl _))
  replace I2 := Lib.hid (I2.out.below hb7 (Nat.le_refl _))
  replace I3 := Lib.hid (I3.out.below hb7 (Nat.le_refl _))
  replace IK := Lib.hid (IK.out.below hb7 (Nat.le_refl _))
  replace B1 := Lib.hid (B1.out.trans (hb7.mono B1.out.size))
  have I5 := Lib.hid ho.is
  clear ho hb hb7
  have hn2 : n2 ≤ 8 := by have h1 := I2.out.len; have h3 := uakV_le xs m; rw [HO.out] at h3; omega
  have hn5 : n5 ≤ 9 := by have h1 := I2.out.len; have h3 := I5.out.len; have h4 := HS2.out; omega
  have hle : (n5 : Int) ≤ (n2 : Int) + 1 := by have h1 := I2.out.len; have h3 := I5.out.len; have h4 := HS2.out; omega
  have hw2 : IntKind.i64.wrap ((n2 : Int) + 1) = (n2 : Int) + 1 := by rw [IntKind.wrap_i64]; omega
  go_wp2_with (fail)
  go_loop [7] (fun i => ∃ j : Nat, j ≤ n2 ∧ i = .int .i64 (j : Int)) (fun i => n2 - (intOf i).toNat)
  case atStart => exact ⟨0, Nat.zero_le _, rfl⟩
  case round =>
    obtain ⟨j, hj, rfl⟩ := hrel
    by_cases hlt : j < n2
    · obtain ⟨g, off2, v, rfl, hx, hc⟩ := I2.out.at_ hlt
      have l1 : bs.contains v = true := by
        have := HS1.out v (List.mem_of_getElem? hx)
        simpa using this
      have hlt' : (j : Int) < (n2 : Int) := by omega
      clear hx
      go_wp2_with (go_at_call 19; refine (call_bool (laws_isIn_any v _ I5.out) l1).mono ?_; rintro e w' ⟨rfl, rfl⟩)
      go_round
      case rel => exact ⟨j + 1, by omega, by first | rfl | go_num⟩
      case measure => simp [intOf]; omega
    · go_wp2_with (fail)
      go_ret
      exact ⟨ret_bool (by first | rfl | (simp; done) | (simp; omega)), B1.out⟩
end Go.Proofs.Ythbdcindhkjboaa
