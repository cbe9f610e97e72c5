/-
  The walk of FnUsedAll. (Its words were written by a program of my own.)
-/
import Derived.Test.YtkmjonebjobjnaaDrawB
import Derived.Test.YtkmjonebjobjnaaBudM
import Derived.Lib.QuietBelow
import Derived.Deep.DeepMust
import Derived.Test.YtkmjonebjobjnaaBudY
namespace Go.Proofs.Ytkmjonebjobjnaa
open Go.RowKit
attribute [local go_sem ↓] Go.wp_at_zero Go.wp_at_succ
-- CALL: W s0
set_option maxHeartbeats 4000000 in
theorem walk_FnUsedAll {A : Option Addr} {n c : Nat} {zs : List Int} (w : World) (h : BS w A n c zs) :
    Calls Try.prog 9 #[.slice A n c] w fun e w' => e = .returned (.bool true) ∧ Below w.heap.size w w' := by
  have H := Lib.hid h
  clear h
  rcases Nat.lt_or_ge 1048576 n with h1 | h1
  · have h1' : (1048576 : Int) < (n : Int) := by omega
    go_enter Try.func9, Try.ntmps9
    go_wp2_with (fail)
    go_ret
    exact ⟨rfl, Below.refl _ _⟩
  have h1' : ¬ (1048576 : Int) < (n : Int) := by omega
  go_enter Try.func9, Try.ntmps9
  go_wp2_with (fail)
  refine (spec_DrawUsedAll_any w H.out h1).mono ?_
  rintro e w1 ⟨t, ks, us, A1, n1, c1, A2, n2, c2, rfl, hn1, hn2, hI1, hI2, hb⟩
  have B := Lib.hid hb
  have I1 := Lib.hid hI1
  have I2 := Lib.hid hI2
  clear hb hI1 hI2
  replace I1 := Lib.hid (I1.out.alloc (.cells #[.int .i64 t, .slice A1 n1 c1, .slice A2 n2 c2] 25))
  replace I2 := Lib.hid (I2.out.alloc (.cells #[.int .i64 t, .slice A1 n1 c1, .slice A2 n2 c2] 25))
  replace B := Lib.hid (B.out.alloc B.out.size (.cells #[.int .i64 t, .slice A1 n1 c1, .slice A2 n2 c2] 25))
  have Q := Lib.hid (Blk.new w1 25 #[.int .i64 t, .slice A1 n1 c1, .slice A2 n2 c2])
  rcases hv : validB t ks us with _ | _
  · skip
    have hU : usedV t ks us = -1 := by simp [usedV, hv]
    clear hv
    go_wp2_with (fail)
    refine (call_int (impl_UsedAll_any t _ I1.out I2.out) hU).mono ?_
    rintro e w2 ⟨rfl, hb⟩
    replace I1 := Lib.hid (I1.out.below hb (Nat.le_refl _))
    replace I2 := Lib.hid (I2.out.below hb (Nat.le_refl _))
    replace Q := Lib.hid (Q.out.on hb)
    replace B := Lib.hid (B.out.trans (hb.mono B.out.size))
    clear hb
    obtain ⟨q0, q1, q2⟩ := Q.out.c3
    have ql := Q.out.lt
    go_wp2_with (fail)
    refine (call_int (spec_UsedAll_any t _ I1.out I2.out) hU).mono ?_
    clear q0 q1 q2 ql
    rintro e w3 ⟨rfl, hb⟩
    replace I1 := Lib.hid (I1.out.below hb (Nat.le_refl _))
    replace I2 := Lib.hid (I2.out.below hb (Nat.le_refl _))
    replace Q := Lib.hid (Q.out.on hb)
    replace B := Lib.hid (B.out.trans (hb.mono B.out.size))
    clear hb
    obtain ⟨q0, q1, q2⟩ := Q.out.c3
    have ql := Q.out.lt
    go_wp2_with (fail)
    refine (call_int (spec_UsedAll_any t _ I1.out I2.out) hU).mono ?_
    clear q0 q1 q2 ql
    rintro e w4 ⟨rfl, hb⟩
    replace I1 := Lib.hid (I1.out.below hb (Nat.le_refl _))
    replace I2 := Lib.hid (I2.out.below hb (Nat.le_refl _))
    replace Q := Lib.hid (Q.out.on hb)
    replace B := Lib.hid (B.out.trans (hb.mono B.out.size))
    clear hb
    go_wp2_with (fail)
    go_ret
    exact ⟨ret_bool (by first | rfl | (simp; done) | (simp; omega) | omega), B.out⟩
  obtain ⟨m1, m2, m3, m4⟩ := used_room hv
  have hU0 : usedV t ks us = us.sum := by simp [usedV, hv]
  have hr2 := (cnt_iff.1 (validB_iff.1 hv).2.2.1).2
  obtain ⟨U, hU⟩ : ∃ U, us.sum = U := ⟨_, rfl⟩
  rw [hU] at m1 m2 m3 m4 hU0
  have HU := Lib.hid hU
  have HU0 := Lib.hid hU0
  have M4 := Lib.hid m4
  have HR := Lib.hid hr2
  have HV := Lib.hid hv
  have hneg : ¬ U < 0 := by omega
  clear hU hU0 hr2 m4 hv
  go_wp2_with (fail)
  refine (call_int (impl_UsedAll_any t _ I1.out I2.out) HU0.out).mono ?_
  rintro e w2 ⟨rfl, hb⟩
  replace I1 := Lib.hid (I1.out.below hb (Nat.le_refl _))
  replace I2 := Lib.hid (I2.out.below hb (Nat.le_refl _))
  replace Q := Lib.hid (Q.out.on hb)
  replace B := Lib.hid (B.out.trans (hb.mono B.out.size))
  clear hb
  obtain ⟨q0, q1, q2⟩ := Q.out.c3
  have ql := Q.out.lt
  go_wp2_with (fail)
  refine (call_int (spec_UsedAll_any t _ I1.out I2.out) HU0.out).mono ?_
  clear q0 q1 q2 ql
  rintro e w3 ⟨rfl, hb⟩
  replace I1 := Lib.hid (I1.out.below hb (Nat.le_refl _))
  replace I2 := Lib.hid (I2.out.below hb (Nat.le_refl _))
  replace Q := Lib.hid (Q.out.on hb)
  replace B := Lib.hid (B.out.trans (hb.mono B.out.size))
  clear hb
  go_wp2_with (fail)
  go_loopw [5, 6] (fun b i wr => ∃ k : Nat, k ≤ 3 ∧ i = .int .i64 k ∧ b = .bool (rmB t ks us k) ∧ Hid (Below w.heap.size w wr ∧ Blk wr w1.heap.size 25 #[.int .i64 t, .slice A1 n1 c1, .slice A2 n2 c2] ∧ IS wr A1 n1 c1 ks ∧ IS wr A2 n2 c2 us)) (fun _ i _ => 3 - (intOf i).toNat)
  case atStart => exact ⟨0, by omega, rfl, rfl, Lib.hid ⟨B.out, Q.out, I1.out, I2.out⟩⟩
  case round =>
    obtain ⟨k, hk, rfl, rfl, HH⟩ := hrel
    clear B Q I1 I2
    have B := Lib.hid HH.out.1
    have Q := Lib.hid HH.out.2.1
    have I1 := Lib.hid HH.out.2.2.1
    have I2 := Lib.hid HH.out.2.2.2
    obtain ⟨q0, q1, q2⟩ := Q.out.c3
    by_cases hlt : k < 3
    · have hi : (k : Int) < 3 := by omega
      rcases hb : rmB t ks us k with _ | _
      · have hc : inR (k : Int) 0 2 = true := inR_t (by omega) (by omega)
        have HC := Lib.hid ((roomV_t HV.out hc).trans rfl)
        have HN := Lib.hid (rmB_f hb)
        obtain ⟨R, hR⟩ : ∃ R, roomL t ks us (k : Int) = R := ⟨_, rfl⟩
        have HR2 := Lib.hid hR
        clear hR hb hc
        go_wp2_with (fail)
        refine (call_int (impl_RoomFor_any t (k : Int) _ I1.out I2.out) (HC.out.trans HR2.out)).mono ?_
        clear q0 q1 q2
        rintro e wx ⟨rfl, hb⟩
        have NX := Lib.hid (And.intro (B.out.trans (hb.mono B.out.size)) (And.intro (Q.out.on hb) (And.intro (I1.out.below hb (Nat.le_refl _)) (I2.out.below hb (Nat.le_refl _)))))
        clear hb
        go_wp2_with (fail)
        go_roundw
        case rel => exact ⟨k + 1, by omega, by go_num, by rw [HN.out, HR2.out], NX⟩
        case measure => simp [intOf]; omega
      · have HN := Lib.hid (rmB_t hb)
        go_wp2_with (fail)
        go_roundw
        case rel => exact ⟨k + 1, by omega, by go_num, by rw [HN.out], HH⟩
        case measure => simp [intOf]; omega
    · have ek : k = 3 := by omega
      subst ek
      have hn2' : n2 ≤ 1000000 := by omega
      rw [M4.out]
      by_cases hut : U = t
      · have hut1 : (U == t) = true := by simp [hut]
        rw [decide_eq_true hut]
        have HT := Lib.hid hut
        clear hut
        go_wp2_with (fail)
        refine (call_int (laws_sum_any _ I2.out (allR_wide HR.out (by omega) (by omega)) hn2') HU.out).mono ?_
        rintro e wx ⟨rfl, rfl⟩
        go_wp2_with (fail)
        go_ret
        exact ⟨ret_bool (by first | rfl | (simp; done) | (simp; omega) | omega), B.out⟩
      · have hut1 : (U == t) = false := by simp [hut]
        rw [decide_eq_false hut]
        clear hut
        go_wp2_with (fail)
        refine (call_int (laws_sum_any _ I2.out (allR_wide HR.out (by omega) (by omega)) hn2') HU.out).mono ?_
        rintro e wx ⟨rfl, rfl⟩
        go_wp2_with (fail)
        go_ret
        exact ⟨ret_bool (by first | rfl | (simp; done) | (simp; omega) | omega), B.out⟩
end Go.Proofs.Ytkmjonebjobjnaa
