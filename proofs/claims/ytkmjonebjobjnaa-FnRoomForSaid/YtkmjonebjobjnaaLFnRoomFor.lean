/-
  The walk of FnRoomFor. (Its words were written by a program of my own.)
-/
import Derived.Test.YtkmjonebjobjnaaDrawR
import Derived.Test.YtkmjonebjobjnaaBudY
import Derived.Lib.QuietBelow
import Derived.Deep.DeepMust
namespace Go.Proofs.Ytkmjonebjobjnaa
open Go.RowKit
attribute [local go_sem ↓] Go.wp_at_zero Go.wp_at_succ
-- CALL: W s0
set_option maxHeartbeats 4000000 in
theorem walk_FnRoomFor {A : Option Addr} {n c : Nat} {zs : List Int} (w : World) (h : BS w A n c zs) :
    Calls Try.prog 4 #[.slice A n c] w fun e w' => e = .returned (.bool true) ∧ Below w.heap.size w w' := by
  have H := Lib.hid h
  clear h
  rcases Nat.lt_or_ge 1048576 n with h1 | h1
  · have h1' : (1048576 : Int) < (n : Int) := by omega
    go_enter Try.func4, Try.ntmps4
    go_wp2_with (fail)
    go_ret
    exact ⟨rfl, Below.refl _ _⟩
  have h1' : ¬ (1048576 : Int) < (n : Int) := by omega
  go_enter Try.func4, Try.ntmps4
  go_wp2_with (fail)
  refine (spec_DrawRoomFor_any w H.out h1).mono ?_
  rintro e w1 ⟨t, ks, us, A1, n1, c1, A2, n2, c2, cl, rfl, hn1, hn2, hcl0, hcl1, hI1, hI2, hb⟩
  have B := Lib.hid hb
  have I1 := Lib.hid hI1
  have I2 := Lib.hid hI2
  clear hb hI1 hI2
  replace I1 := Lib.hid (I1.out.alloc (.cells #[.int .i64 t, .slice A1 n1 c1, .slice A2 n2 c2] 25))
  replace I2 := Lib.hid (I2.out.alloc (.cells #[.int .i64 t, .slice A1 n1 c1, .slice A2 n2 c2] 25))
  replace B := Lib.hid (B.out.alloc B.out.size (.cells #[.int .i64 t, .slice A1 n1 c1, .slice A2 n2 c2] 25))
  have Q := Lib.hid (Blk.new w1 25 #[.int .i64 t, .slice A1 n1 c1, .slice A2 n2 c2])
  obtain ⟨R, hR⟩ : ∃ R, roomV t ks us cl = R := ⟨_, rfl⟩
  obtain ⟨hR0, hR1⟩ := roomV_bd t cl ks us
  rw [hR] at hR0 hR1
  have HR := Lib.hid hR
  clear hR
  go_wp2_with (fail)
  refine (call_int (impl_RoomFor_any t cl _ I1.out I2.out) HR.out).mono ?_
  rintro e w2 ⟨rfl, hb⟩
  replace I1 := Lib.hid (I1.out.below hb (Nat.le_refl _))
  replace I2 := Lib.hid (I2.out.below hb (Nat.le_refl _))
  replace Q := Lib.hid (Q.out.on hb)
  replace B := Lib.hid (B.out.trans (hb.mono B.out.size))
  clear hb
  rcases Int.lt_or_le R 0 with hneg | hneg
  · skip
    obtain ⟨q0, q1, q2⟩ := Q.out.c3
    have ql := Q.out.lt
    go_wp2_with (fail)
    refine (call_int (spec_RoomFor_any t cl _ I1.out I2.out) HR.out).mono ?_
    clear q0 q1 q2 ql
    rintro e w3 ⟨rfl, hb⟩
    replace I1 := Lib.hid (I1.out.below hb (Nat.le_refl _))
    replace I2 := Lib.hid (I2.out.below hb (Nat.le_refl _))
    replace Q := Lib.hid (Q.out.on hb)
    replace B := Lib.hid (B.out.trans (hb.mono B.out.size))
    clear hb
    obtain ⟨q0, q1, q2⟩ := Q.out.c3
    have ql := Q.out.lt
    go_wp2_with (fail)
    refine (call_int (spec_RoomFor_any t cl _ I1.out I2.out) HR.out).mono ?_
    clear q0 q1 q2 ql
    rintro e w4 ⟨rfl, hb⟩
    replace I1 := Lib.hid (I1.out.below hb (Nat.le_refl _))
    replace I2 := Lib.hid (I2.out.below hb (Nat.le_refl _))
    replace Q := Lib.hid (Q.out.on hb)
    replace B := Lib.hid (B.out.trans (hb.mono B.out.size))
    clear hb
    go_wp2_with (fail)
    go_ret
    exact ⟨ret_bool (by simp), B.out⟩
  have hneg' : ¬ R < 0 := by omega
  obtain ⟨q0, q1, q2⟩ := Q.out.c3
  have ql := Q.out.lt
  go_wp2_with (fail)
  refine (call_int (spec_RoomFor_any t cl _ I1.out I2.out) HR.out).mono ?_
  clear q0 q1 q2 ql
  rintro e w3 ⟨rfl, hb⟩
  replace I1 := Lib.hid (I1.out.below hb (Nat.le_refl _))
  replace I2 := Lib.hid (I2.out.below hb (Nat.le_refl _))
  replace Q := Lib.hid (Q.out.on hb)
  replace B := Lib.hid (B.out.trans (hb.mono B.out.size))
  clear hb
  obtain ⟨hv, hc⟩ := roomV_pos (by rw [HR.out]; exact hneg)
  obtain ⟨r1, r2, r3⟩ := room_all hv hc
  have r4 := roomL_le hv hc
  rw [← roomV_t hv hc, HR.out] at r1 r2 r3 r4
  have H1 := Lib.hid r1
  have H2 := Lib.hid r2
  have H3 := Lib.hid r3
  clear hv hc r1 r2 r3
  obtain ⟨q0, q1, q2⟩ := Q.out.c3
  have ql := Q.out.lt
  go_wp2_with (fail)
  refine (impl_TakeCredit_yes t cl R _ I1.out I2.out H1.out).mono ?_
  clear q0 q1 q2 ql
  rintro e w4 ⟨A3, n3, c3, A4, n4, c4, rfl, ho3, ho4, hd, hb⟩
  replace I1 := Lib.hid (I1.out.below hb (Nat.le_refl _))
  replace I2 := Lib.hid (I2.out.below hb (Nat.le_refl _))
  replace Q := Lib.hid (Q.out.on hb)
  replace B := Lib.hid (B.out.trans (hb.mono B.out.size))
  have I3 := Lib.hid ho3.is
  have I4 := Lib.hid ho4.is
  clear hb
  have Qp := Q
  replace Q := Lib.hid (Q.out.alloc (.cells #[.int .i64 t, .slice A3 n3 c3, .slice A4 n4 c4] 25))
  replace I1 := Lib.hid (I1.out.alloc (.cells #[.int .i64 t, .slice A3 n3 c3, .slice A4 n4 c4] 25))
  replace I2 := Lib.hid (I2.out.alloc (.cells #[.int .i64 t, .slice A3 n3 c3, .slice A4 n4 c4] 25))
  replace I3 := Lib.hid (I3.out.alloc (.cells #[.int .i64 t, .slice A3 n3 c3, .slice A4 n4 c4] 25))
  replace I4 := Lib.hid (I4.out.alloc (.cells #[.int .i64 t, .slice A3 n3 c3, .slice A4 n4 c4] 25))
  replace B := Lib.hid (B.out.alloc B.out.size (.cells #[.int .i64 t, .slice A3 n3 c3, .slice A4 n4 c4] 25))
  have F := Lib.hid (Blk.new w4 25 #[.int .i64 t, .slice A3 n3 c3, .slice A4 n4 c4])
  obtain ⟨q0, q1, q2⟩ := Qp.out.c3
  have ql := Qp.out.lt
  go_wp2_with (fail)
  refine (impl_TakeCredit_no t cl (R + 1) _ I1.out I2.out H2.out).mono ?_
  clear q0 q1 q2 ql
  rintro e w5 ⟨A5, n5, c5, A6, n6, c6, rfl, ho5, ho6, hd, hb⟩
  replace I1 := Lib.hid (I1.out.below hb (Nat.le_refl _))
  replace I2 := Lib.hid (I2.out.below hb (Nat.le_refl _))
  replace I3 := Lib.hid (I3.out.below hb (Nat.le_refl _))
  replace I4 := Lib.hid (I4.out.below hb (Nat.le_refl _))
  replace Q := Lib.hid (Q.out.on hb)
  replace F := Lib.hid (F.out.on hb)
  replace B := Lib.hid (B.out.trans (hb.mono B.out.size))
  have I5 := Lib.hid ho5.is
  have I6 := Lib.hid ho6.is
  clear hb
  replace Qp := Q
  replace Q := Lib.hid (Q.out.alloc (.cells #[.int .i64 0, .slice A5 n5 c5, .slice A6 n6 c6] 25))
  have Fp := F
  replace F := Lib.hid (F.out.alloc (.cells #[.int .i64 0, .slice A5 n5 c5, .slice A6 n6 c6] 25))
  replace I1 := Lib.hid (I1.out.alloc (.cells #[.int .i64 0, .slice A5 n5 c5, .slice A6 n6 c6] 25))
  replace I2 := Lib.hid (I2.out.alloc (.cells #[.int .i64 0, .slice A5 n5 c5, .slice A6 n6 c6] 25))
  replace I3 := Lib.hid (I3.out.alloc (.cells #[.int .i64 0, .slice A5 n5 c5, .slice A6 n6 c6] 25))
  replace I4 := Lib.hid (I4.out.alloc (.cells #[.int .i64 0, .slice A5 n5 c5, .slice A6 n6 c6] 25))
  replace I5 := Lib.hid (I5.out.alloc (.cells #[.int .i64 0, .slice A5 n5 c5, .slice A6 n6 c6] 25))
  replace I6 := Lib.hid (I6.out.alloc (.cells #[.int .i64 0, .slice A5 n5 c5, .slice A6 n6 c6] 25))
  replace B := Lib.hid (B.out.alloc B.out.size (.cells #[.int .i64 0, .slice A5 n5 c5, .slice A6 n6 c6] 25))
  have G := Lib.hid (Blk.new w5 25 #[.int .i64 0, .slice A5 n5 c5, .slice A6 n6 c6])
  obtain ⟨f0, f1, f2⟩ := Fp.out.c3
  have fl := Fp.out.lt
  go_wp2_with (fail)
  refine (call_int (impl_RoomFor_any t cl _ I3.out I4.out) H3.out).mono ?_
  clear f0 f1 f2 fl
  rintro e w6 ⟨rfl, hb⟩
  replace I1 := Lib.hid (I1.out.below hb (Nat.le_refl _))
  replace I2 := Lib.hid (I2.out.below hb (Nat.le_refl _))
  replace I3 := Lib.hid (I3.out.below hb (Nat.le_refl _))
  replace I4 := Lib.hid (I4.out.below hb (Nat.le_refl _))
  replace I5 := Lib.hid (I5.out.below hb (Nat.le_refl _))
  replace I6 := Lib.hid (I6.out.below hb (Nat.le_refl _))
  replace Q := Lib.hid (Q.out.on hb)
  replace F := Lib.hid (F.out.on hb)
  replace G := Lib.hid (G.out.on hb)
  replace B := Lib.hid (B.out.trans (hb.mono B.out.size))
  clear hb
  obtain ⟨q0, q1, q2⟩ := Q.out.c3
  have ql := Q.out.lt
  go_wp2_with (fail)
  go_ret
  exact ⟨ret_bool (by first | rfl | (simp; done) | (simp; omega) | omega), B.out⟩
end Go.Proofs.Ytkmjonebjobjnaa
