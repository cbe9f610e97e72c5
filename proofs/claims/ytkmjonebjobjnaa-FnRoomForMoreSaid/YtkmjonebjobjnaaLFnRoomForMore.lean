/-
  The walk of FnRoomForMore. (Its words were written by a program of my own.)
-/
import Derived.Test.YtkmjonebjobjnaaDrawR
import Derived.Test.YtkmjonebjobjnaaBudY
import Derived.Lib.QuietBelow
import Derived.Deep.DeepMust
namespace Go.Proofs.Ytkmjonebjobjnaa
open Go.RowKit
attribute [local go_sem ↓] Go.wp_at_zero Go.wp_at_succ
-- CALL: W s0
set_option maxHeartbeats 4000000 in
theorem walk_FnRoomForMore {A : Option Addr} {n c : Nat} {zs : List Int} (w : World) (h : BS w A n c zs) :
    Calls Try.prog 11 #[.slice A n c] w fun e w' => e = .returned (.bool true) ∧ Below w.heap.size w w' := by
  have H := Lib.hid h
  clear h
  rcases Nat.lt_or_ge 1048576 n with h1 | h1
  · have h1' : (1048576 : Int) < (n : Int) := by omega
    go_enter Try.func11, Try.ntmps11
    go_wp2_with (fail)
    go_ret
    exact ⟨rfl, Below.refl _ _⟩
  have h1' : ¬ (1048576 : Int) < (n : Int) := by omega
  go_enter Try.func11, Try.ntmps11
  go_wp2_with (fail)
  refine (spec_DrawRoomFor_any w H.out h1).mono ?_
  rintro e w1 ⟨t, ks, us, A1, n1, c1, A2, n2, c2, cl, rfl, hn1, hn2, hcl0, hcl1, hI1, hI2, hb⟩
  have B := Lib.hid hb
  have I1 := Lib.hid hI1
  have I2 := Lib.hid hI2
  clear hb hI1 hI2
  replace I1 := Lib.hid (I1.out.alloc (.cells #[.int .i64 t, .slice A1 n1 c1, .slice A2 n2 c2] 25))
  replace I2 := Lib.hid (I2.out.alloc (.cells #[.int .i64 t, .slice A1 n1 c1, .slice A2 n2 c2] 25))
  replace B := Lib.hid (B.out.alloc B.out.size (.cells #[.int .i64 t, .slice A1 n1 c1, .slice A2 n2 c2] 25))
  have Q := Lib.hid (Blk.new w1 25 #[.int .i64 t, .slice A1 n1 c1, .slice A2 n2 c2])
  obtain ⟨R, hR⟩ : ∃ R, roomV t ks us cl = R := ⟨_, rfl⟩
  obtain ⟨hR0, hR1⟩ := roomV_bd t cl ks us
  rw [hR] at hR0 hR1
  have HR := Lib.hid hR
  clear hR
  go_wp2_with (fail)
  refine (call_int (impl_RoomFor_any t cl _ I1.out I2.out) HR.out).mono ?_
  rintro e w2 ⟨rfl, hb⟩
  replace I1 := Lib.hid (I1.out.below hb (Nat.le_refl _))
  replace I2 := Lib.hid (I2.out.below hb (Nat.le_refl _))
  replace Q := Lib.hid (Q.out.on hb)
  replace B := Lib.hid (B.out.trans (hb.mono B.out.size))
  clear hb
  rcases Int.lt_or_le R 0 with hneg | hneg
  · skip
    obtain ⟨q0, q1, q2⟩ := Q.out.c3
    have ql := Q.out.lt
    go_wp2_with (fail)
    refine (call_int (spec_RoomFor_any t cl _ I1.out I2.out) HR.out).mono ?_
    clear q0 q1 q2 ql
    rintro e w3 ⟨rfl, hb⟩
    replace I1 := Lib.hid (I1.out.below hb (Nat.le_refl _))
    replace I2 := Lib.hid (I2.out.below hb (Nat.le_refl _))
    replace Q := Lib.hid (Q.out.on hb)
    replace B := Lib.hid (B.out.trans (hb.mono B.out.size))
    clear hb
    obtain ⟨q0, q1, q2⟩ := Q.out.c3
    have ql := Q.out.lt
    go_wp2_with (fail)
    refine (call_int (spec_RoomFor_any t cl _ I1.out I2.out) HR.out).mono ?_
    clear q0 q1 q2 ql
    rintro e w4 ⟨rfl, hb⟩
    replace I1 := Lib.hid (I1.out.below hb (Nat.le_refl _))
    replace I2 := Lib.hid (I2.out.below hb (Nat.le_refl _))
    replace Q := Lib.hid (Q.out.on hb)
    replace B := Lib.hid (B.out.trans (hb.mono B.out.size))
    clear hb
    go_wp2_with (fail)
    go_ret
    exact ⟨ret_bool (by simp), B.out⟩
  have hneg' : ¬ R < 0 := by omega
  by_cases ht : t = 200
  · skip
    have ht2 : (t == 200) = true := by simp [ht]
    clear ht
    obtain ⟨q0, q1, q2⟩ := Q.out.c3
    have ql := Q.out.lt
    go_wp2_with (fail)
    refine (call_int (spec_RoomFor_any t cl _ I1.out I2.out) HR.out).mono ?_
    clear q0 q1 q2 ql
    rintro e w3 ⟨rfl, hb⟩
    replace I1 := Lib.hid (I1.out.below hb (Nat.le_refl _))
    replace I2 := Lib.hid (I2.out.below hb (Nat.le_refl _))
    replace Q := Lib.hid (Q.out.on hb)
    replace B := Lib.hid (B.out.trans (hb.mono B.out.size))
    clear hb
    obtain ⟨q0, q1, q2⟩ := Q.out.c3
    have ql := Q.out.lt
    go_wp2_with (fail)
    refine (call_int (spec_RoomFor_any t cl _ I1.out I2.out) HR.out).mono ?_
    clear q0 q1 q2 ql
    rintro e w4 ⟨rfl, hb⟩
    replace I1 := Lib.hid (I1.out.below hb (Nat.le_refl _))
    replace I2 := Lib.hid (I2.out.below hb (Nat.le_refl _))
    replace Q := Lib.hid (Q.out.on hb)
    replace B := Lib.hid (B.out.trans (hb.mono B.out.size))
    clear hb
    go_wp2_with (fail)
    go_ret
    exact ⟨ret_bool (by simp), B.out⟩
  have ht2 : (t == 200) = false := by simp [ht]
  have HM := Lib.hid ((roomV_more (by rw [HR.out]; exact hneg) ht).trans (by rw [HR.out] : roomV t ks us cl + 1 = R + 1))
  have hvt := (validB_iff.1 (roomV_pos (by rw [HR.out]; exact hneg)).1).1
  obtain ⟨hvt0, hvt1⟩ := hvt
  clear ht
  have hneg' : ¬ R < 0 := by omega
  obtain ⟨q0, q1, q2⟩ := Q.out.c3
  have ql := Q.out.lt
  go_wp2_with (fail)
  refine (call_int (spec_RoomFor_any t cl _ I1.out I2.out) HR.out).mono ?_
  clear q0 q1 q2 ql
  rintro e w3 ⟨rfl, hb⟩
  replace I1 := Lib.hid (I1.out.below hb (Nat.le_refl _))
  replace I2 := Lib.hid (I2.out.below hb (Nat.le_refl _))
  replace Q := Lib.hid (Q.out.on hb)
  replace B := Lib.hid (B.out.trans (hb.mono B.out.size))
  clear hb
  obtain ⟨q0, q1, q2⟩ := Q.out.c3
  have ql := Q.out.lt
  go_wp2_with (fail)
  refine (call_int (impl_RoomFor_any (t + 1) cl _ I1.out I2.out) HM.out).mono ?_
  clear q0 q1 q2 ql
  rintro e w4 ⟨rfl, hb⟩
  replace I1 := Lib.hid (I1.out.below hb (Nat.le_refl _))
  replace I2 := Lib.hid (I2.out.below hb (Nat.le_refl _))
  replace Q := Lib.hid (Q.out.on hb)
  replace B := Lib.hid (B.out.trans (hb.mono B.out.size))
  clear hb
  go_wp2_with (fail)
  go_ret
  exact ⟨ret_bool (by simp), B.out⟩
end Go.Proofs.Ytkmjonebjobjnaa
