/-
  The walk of FnArrivedOverShort. (Its words were written by a program of my own.)
-/
import Derived.Deep.DrawnRows
import Derived.Test.YtgeakfdhmogeoaaLawL
import Derived.Lib.QuietBelow
import Derived.Deep.DeepMust
namespace Go.Proofs.Ytgeakfdhmogeoaa
open Go.RowKit
attribute [local go_sem ↓] Go.wp_at_zero Go.wp_at_succ
-- CALL: W s0
set_option maxHeartbeats 4000000 in
theorem walk_FnArrivedOverShort {A : Option Addr} {n c : Nat} {zs : List Int} (w : World) (h : BS w A n c zs) :
    Calls Try.prog 8 #[.slice A n c] w fun e w' => e = .returned (.bool true) ∧ Below w.heap.size w w' := by
  have H := Lib.hid h
  clear h
  rcases Nat.lt_or_ge 1048576 n with h1 | h1
  · have h1' : (1048576 : Int) < (n : Int) := by omega
    go_enter Try.func8, Try.ntmps8
    go_wp2_with (fail)
    go_ret
    exact ⟨rfl, Below.refl _ _⟩
  have h1' : ¬ (1048576 : Int) < (n : Int) := by omega
  go_enter Try.func8, Try.ntmps8
  go_wp2_with (fail)
  refine (spec_DrawArrivedOver_any w H.out h1).mono ?_
  rintro e w1 ⟨xs, A1, n1, c1, m, rfl, hn1, ⟨hm0, hm1⟩, hI1, hb⟩
  have B := Lib.hid hb
  have I1 := Lib.hid hI1
  clear hb hI1
  obtain ⟨os, eo⟩ : ∃ v, arrV xs m = v := ⟨_, rfl⟩
  have hle := arrV_le xs m
  rw [eo] at hle
  have HO := Lib.hid eo
  clear eo
  go_wp2_with (fail)
  refine (ints_at (impl_ArrivedOver_any m _ I1.out) HO.out).mono ?_
  rintro e w2 ⟨A2, n2, c2, rfl, ho, hb⟩
  replace I1 := Lib.hid (I1.out.below hb (Nat.le_refl _))
  replace B := Lib.hid (B.out.trans (hb.mono B.out.size))
  have I2 := Lib.hid ho.is
  clear hb
  have hn2 : n2 ≤ 40 := by have := I2.out.len; omega
  clear hle
  go_wp2_with (fail)
  refine (ints_at (spec_ArrivedOver_any m _ I1.out) HO.out).mono ?_
  rintro e w3 ⟨A3, n3, c3, rfl, ho, hb⟩
  replace I1 := Lib.hid (I1.out.below hb (Nat.le_refl _))
  replace I2 := Lib.hid (I2.out.below hb (Nat.le_refl _))
  replace B := Lib.hid (B.out.trans (hb.mono B.out.size))
  have I3 := Lib.hid ho.is
  clear hb
  go_wp2_with (fail)
  refine (equalInts_same _ I2.out I3.out).mono ?_
  rintro e w4 ⟨rfl, hb⟩
  replace I1 := Lib.hid (I1.out.below hb (Nat.le_refl _))
  replace I2 := Lib.hid (I2.out.below hb (Nat.le_refl _))
  replace I3 := Lib.hid (I3.out.below hb (Nat.le_refl _))
  replace B := Lib.hid (B.out.trans (hb.mono B.out.size))
  clear hb
  by_cases hn0 : n1 = 0
  · skip
    have hz : ((n1 : Int) == 0) = true := by simp [hn0]
    clear hn0
    go_wp2_with (fail)
    refine (ints_at (spec_ArrivedOver_any m _ I1.out) HO.out).mono ?_
    rintro e w5 ⟨A4, n4, c4, rfl, ho, hb⟩
    replace I1 := Lib.hid (I1.out.below hb (Nat.le_refl _))
    replace I2 := Lib.hid (I2.out.below hb (Nat.le_refl _))
    replace I3 := Lib.hid (I3.out.below hb (Nat.le_refl _))
    replace B := Lib.hid (B.out.trans (hb.mono B.out.size))
    have I4 := Lib.hid ho.is
    clear hb
    go_wp2_with (fail)
    refine (equalInts_same _ I2.out I4.out).mono ?_
    rintro e w6 ⟨rfl, hb⟩
    replace I1 := Lib.hid (I1.out.below hb (Nat.le_refl _))
    replace I2 := Lib.hid (I2.out.below hb (Nat.le_refl _))
    replace I3 := Lib.hid (I3.out.below hb (Nat.le_refl _))
    replace I4 := Lib.hid (I4.out.below hb (Nat.le_refl _))
    replace B := Lib.hid (B.out.trans (hb.mono B.out.size))
    clear hb
    go_wp2_with (fail)
    go_ret
    exact ⟨ret_bool (rfl), B.out⟩
  have hz : ((n1 : Int) == 0) = false := by simp; omega
  by_cases hn9 : n2 = 0
  · skip
    have hz2 : ((n2 : Int) == 0) = true := by simp [hn9]
    clear hn9
    go_wp2_with (fail)
    refine (ints_at (spec_ArrivedOver_any m _ I1.out) HO.out).mono ?_
    rintro e w5 ⟨A4, n4, c4, rfl, ho, hb⟩
    replace I1 := Lib.hid (I1.out.below hb (Nat.le_refl _))
    replace I2 := Lib.hid (I2.out.below hb (Nat.le_refl _))
    replace I3 := Lib.hid (I3.out.below hb (Nat.le_refl _))
    replace B := Lib.hid (B.out.trans (hb.mono B.out.size))
    have I4 := Lib.hid ho.is
    clear hb
    go_wp2_with (fail)
    refine (equalInts_same _ I2.out I4.out).mono ?_
    rintro e w6 ⟨rfl, hb⟩
    replace I1 := Lib.hid (I1.out.below hb (Nat.le_refl _))
    replace I2 := Lib.hid (I2.out.below hb (Nat.le_refl _))
    replace I3 := Lib.hid (I3.out.below hb (Nat.le_refl _))
    replace I4 := Lib.hid (I4.out.below hb (Nat.le_refl _))
    replace B := Lib.hid (B.out.trans (hb.mono B.out.size))
    clear hb
    go_wp2_with (fail)
    go_ret
    exact ⟨ret_bool (rfl), B.out⟩
  have hz2 : ((n2 : Int) == 0) = false := by simp; omega
  have hk : okK xs m = true := by
    rcases h : okK xs m with _ | _
    · have h1 := HO.out
      rw [arrV_f h] at h1
      have h2 := I2.out.len
      rw [← h1] at h2
      simp at h2
      omega
    · rfl
  obtain ⟨p, hp⟩ : ∃ p, n1 = p + 1 := ⟨n1 - 1, by omega⟩
  obtain ⟨t1, t2⟩ := arr_short hk p
  obtain ⟨ps, ep⟩ : ∃ v, arrV (xs.take p) m = v := ⟨_, rfl⟩
  rw [HO.out, ep] at t1 t2
  have HP := Lib.hid ep
  have T1 := Lib.hid t1
  have T2 := Lib.hid t2
  have wp1 : IntKind.i64.wrap ((n1 : Int) - 1) = (p : Int) := by rw [IntKind.wrap_i64]; omega
  have hcap1 := I1.out.2.1
  have zp0 : (0 : Int) ≤ (p : Int) := by omega
  have zp2 : (p : Int) ≤ (c1 : Int) := by omega
  have IP := Lib.hid (I1.out.upto (m := p) (by omega))
  clear ep t1 t2 hp hn0 hn9 hk
  go_wp2_with (fail)
  refine (ints_at (impl_ArrivedOver_any m _ IP.out) HP.out).mono ?_
  rintro e w5 ⟨A5, n5, c5, rfl, ho, hb⟩
  replace I1 := Lib.hid (I1.out.below hb (Nat.le_refl _))
  replace I2 := Lib.hid (I2.out.below hb (Nat.le_refl _))
  replace I3 := Lib.hid (I3.out.below hb (Nat.le_refl _))
  replace IP := Lib.hid (IP.out.below hb (Nat.le_refl _))
  replace B := Lib.hid (B.out.trans (hb.mono B.out.size))
  have I5 := Lib.hid ho.is
  clear hb
  have hn5 : n5 ≤ n2 := by have h1 := I2.out.len; have h2 := I5.out.len; have h3 := T2.out; omega
  have hn5' : (n5 : Int) ≤ (n2 : Int) := by omega
  have hcap2 := I2.out.2.1
  have IU := Lib.hid (I2.out.upto hn5)
  have e5 : os.take n5 = ps := by rw [← I5.out.len]; exact T1.out.symm
  rw [e5] at IU
  clear e5
  go_wp2_with (fail)
  refine (equalInts_same _ IU.out I5.out).mono ?_
  rintro e w6 ⟨rfl, hb⟩
  replace I1 := Lib.hid (I1.out.below hb (Nat.le_refl _))
  replace I2 := Lib.hid (I2.out.below hb (Nat.le_refl _))
  replace I3 := Lib.hid (I3.out.below hb (Nat.le_refl _))
  replace IP := Lib.hid (IP.out.below hb (Nat.le_refl _))
  replace I5 := Lib.hid (I5.out.below hb (Nat.le_refl _))
  replace IU := Lib.hid (IU.out.below hb (Nat.le_refl _))
  replace B := Lib.hid (B.out.trans (hb.mono B.out.size))
  clear hb
  go_wp2_with (fail)
  go_ret
  exact ⟨ret_bool (by first | rfl | (simp; done) | (simp; omega) | omega), B.out⟩
end Go.Proofs.Ytgeakfdhmogeoaa
