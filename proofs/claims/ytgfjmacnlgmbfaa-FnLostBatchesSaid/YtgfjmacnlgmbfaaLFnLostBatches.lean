/-
  The walk of FnLostBatches. (Its words were written by a program of my own.)
-/
import Derived.Deep.DrawnRows
import Derived.Test.YtgfjmacnlgmbfaaWiN
import Derived.Lib.QuietBelow
import Derived.Deep.DeepMust
namespace Go.Proofs.Ytgfjmacnlgmbfaa
open Go.RowKit
attribute [local go_sem ↓] Go.wp_at_zero Go.wp_at_succ
-- CALL: W s0
set_option maxHeartbeats 4000000 in
theorem walk_FnLostBatches {A : Option Addr} {n c : Nat} {zs : List Int} (w : World) (h : BS w A n c zs) :
    Calls Try.prog 10 #[.slice A n c] w fun e w' => e = .returned (.bool true) ∧ Below w.heap.size w w' := by
  have H := Lib.hid h
  clear h
  rcases Nat.lt_or_ge 1048576 n with h1 | h1
  · have h1' : (1048576 : Int) < (n : Int) := by omega
    go_enter Try.func10, Try.ntmps10
    go_wp2_with (fail)
    go_ret
    exact ⟨rfl, Below.refl _ _⟩
  have h1' : ¬ (1048576 : Int) < (n : Int) := by omega
  go_enter Try.func10, Try.ntmps10
  go_wp2_with (fail)
  refine (spec_DrawLostBatches_any w H.out h1).mono ?_
  rintro e w1 ⟨b, nx, xs, A1, n1, c1, m, rfl, ⟨hb0, hb1⟩, ⟨hx0, hx1⟩, hn1, ⟨hm0, hm1⟩, hI1, hb⟩
  have B := Lib.hid hb
  have I1 := Lib.hid hI1
  clear hb hI1
  replace I1 := Lib.hid (I1.out.alloc (.cells #[.int .i64 b, .int .i64 nx, .slice A1 n1 c1] 25))
  replace B := Lib.hid (B.out.alloc B.out.size (.cells #[.int .i64 b, .int .i64 nx, .slice A1 n1 c1] 25))
  have Q := Lib.hid (Blk.new w1 25 #[.int .i64 b, .int .i64 nx, .slice A1 n1 c1])
  obtain ⟨os, eo⟩ : ∃ v, lostL b nx xs m = v := ⟨_, rfl⟩
  have HO := Lib.hid eo
  have hle := lostL_le b nx xs m
  rw [eo] at hle
  clear eo
  go_wp2_with (fail)
  refine (ints_at (impl_LostBatches_any b nx m _ I1.out) HO.out).mono ?_
  rintro e w2 ⟨A2, n2, c2, rfl, ho, hb⟩
  replace I1 := Lib.hid (I1.out.below hb (Nat.le_refl _))
  replace Q := Lib.hid (Q.out.on hb)
  replace B := Lib.hid (B.out.trans (hb.mono B.out.size))
  have I2 := Lib.hid ho.is
  clear hb
  have hn2 : n2 ≤ 8 := by have := I2.out.len; omega
  clear hle
  obtain ⟨q0, q1, q2⟩ := Q.out.c3
  have ql := Q.out.lt
  go_wp2_with (fail)
  refine (ints_at (spec_LostBatches_any b nx m _ I1.out) HO.out).mono ?_
  clear q0 q1 q2 ql
  rintro e w3 ⟨A3, n3, c3, rfl, ho, hb⟩
  replace I1 := Lib.hid (I1.out.below hb (Nat.le_refl _))
  replace I2 := Lib.hid (I2.out.below hb (Nat.le_refl _))
  replace Q := Lib.hid (Q.out.on hb)
  replace B := Lib.hid (B.out.trans (hb.mono B.out.size))
  have I3 := Lib.hid ho.is
  clear hb
  go_wp2_with (fail)
  refine (equalInts_same _ I2.out I3.out).mono ?_
  rintro e w4 ⟨rfl, hb⟩
  replace I1 := Lib.hid (I1.out.below hb (Nat.le_refl _))
  replace I2 := Lib.hid (I2.out.below hb (Nat.le_refl _))
  replace I3 := Lib.hid (I3.out.below hb (Nat.le_refl _))
  replace Q := Lib.hid (Q.out.on hb)
  replace B := Lib.hid (B.out.trans (hb.mono B.out.size))
  clear hb
  obtain ⟨ps, ep⟩ : ∃ v, openL b nx xs = v := ⟨_, rfl⟩
  have HP := Lib.hid ep
  have T1 := Lib.hid (lost_take b nx xs m)
  rw [HO.out, ep] at T1
  clear ep
  obtain ⟨q0, q1, q2⟩ := Q.out.c3
  have ql := Q.out.lt
  go_wp2_with (fail)
  refine (ints_at (impl_OpenBatches_any b nx _ I1.out) HP.out).mono ?_
  clear q0 q1 q2 ql
  rintro e w5 ⟨A4, n4, c4, rfl, ho, hb⟩
  replace I1 := Lib.hid (I1.out.below hb (Nat.le_refl _))
  replace I2 := Lib.hid (I2.out.below hb (Nat.le_refl _))
  replace I3 := Lib.hid (I3.out.below hb (Nat.le_refl _))
  replace Q := Lib.hid (Q.out.on hb)
  replace B := Lib.hid (B.out.trans (hb.mono B.out.size))
  have I4 := Lib.hid ho.is
  clear hb
  have hn4 : n2 ≤ n4 := by
    have h1 := I2.out.len
    have h2 := I4.out.len
    have h3 := congrArg List.length T1.out
    rw [List.length_take] at h3
    omega
  have hn4' : (n2 : Int) ≤ (n4 : Int) := by omega
  have hcap4 := I4.out.2.1
  have IU := Lib.hid (I4.out.upto hn4)
  have e4 : ps.take n2 = os := by rw [← I2.out.len]; exact T1.out.symm
  rw [e4] at IU
  clear e4
  go_wp2_with (fail)
  refine (equalInts_same _ IU.out I2.out).mono ?_
  rintro e w6 ⟨rfl, hb⟩
  replace I1 := Lib.hid (I1.out.below hb (Nat.le_refl _))
  replace I2 := Lib.hid (I2.out.below hb (Nat.le_refl _))
  replace I3 := Lib.hid (I3.out.below hb (Nat.le_refl _))
  replace I4 := Lib.hid (I4.out.below hb (Nat.le_refl _))
  replace IU := Lib.hid (IU.out.below hb (Nat.le_refl _))
  replace Q := Lib.hid (Q.out.on hb)
  replace B := Lib.hid (B.out.trans (hb.mono B.out.size))
  clear hb
  rcases Nat.eq_zero_or_pos n2 with h0 | h0
  · skip
    have hz : ((n2 : Int) == 0) = true := by simp [h0]
    clear h0
    go_wp2_with (fail)
    go_ret
    exact ⟨ret_bool (rfl), B.out⟩
  have hz : ((n2 : Int) == 0) = false := by simp; omega
  have hmn : m ≤ (n1 : Int) := by
    have h3 := lost_many (b := b) (nx := nx) (xs := xs) (many := m) (by intro e; rw [HO.out] at e; have := I2.out.len; rw [e] at this; simp at this; omega)
    have := I1.out.len
    omega
  obtain ⟨q0, q1, q2⟩ := Q.out.c3
  have ql := Q.out.lt
  go_wp2_with (fail)
  go_ret
  exact ⟨ret_bool (by simp [hmn]), B.out⟩
end Go.Proofs.Ytgfjmacnlgmbfaa
