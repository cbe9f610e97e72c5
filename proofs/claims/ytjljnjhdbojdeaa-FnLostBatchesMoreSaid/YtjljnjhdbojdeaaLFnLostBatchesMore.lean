/-
  The walk of FnLostBatchesMore. (Its words were written by a program of my own.)
-/
import Derived.Deep.DrawnRows
import Derived.Test.YtjljnjhdbojdeaaWiN
import Derived.Lib.QuietBelow
import Derived.Deep.DeepMust
namespace Go.Proofs.Ytjljnjhdbojdeaa
open Go.RowKit
attribute [local go_sem ↓] Go.wp_at_zero Go.wp_at_succ
-- CALL: W s0
set_option maxHeartbeats 4000000 in
theorem walk_FnLostBatchesMore {A : Option Addr} {n c : Nat} {zs : List Int} (w : World) (h : BS w A n c zs) :
    Calls Try.prog 3 #[.slice A n c] w fun e w' => e = .returned (.bool true) ∧ Below w.heap.size w w' := by
  have H := Lib.hid h
  clear h
  rcases Nat.lt_or_ge 1048576 n with h1 | h1
  · have h1' : (1048576 : Int) < (n : Int) := by omega
    go_enter Try.func3, Try.ntmps3
    go_wp2_with (fail)
    go_ret
    exact ⟨rfl, Below.refl _ _⟩
  have h1' : ¬ (1048576 : Int) < (n : Int) := by omega
  go_enter Try.func3, Try.ntmps3
  go_wp2_with (fail)
  refine (spec_DrawLostBatches_any w H.out h1).mono ?_
  rintro e w1 ⟨b, nx, xs, A1, n1, c1, m, rfl, ⟨hb0, hb1⟩, ⟨hx0, hx1⟩, hn1, ⟨hm0, hm1⟩, hI1, hb⟩
  have B := Lib.hid hb
  have I1 := Lib.hid hI1
  clear hb hI1
  replace I1 := Lib.hid (I1.out.alloc (.cells #[.int .i64 b, .int .i64 nx, .slice A1 n1 c1] 25))
  replace B := Lib.hid (B.out.alloc B.out.size (.cells #[.int .i64 b, .int .i64 nx, .slice A1 n1 c1] 25))
  have Q := Lib.hid (Blk.new w1 25 #[.int .i64 b, .int .i64 nx, .slice A1 n1 c1])
  obtain ⟨os, eo⟩ : ∃ v, lostL b nx xs m = v := ⟨_, rfl⟩
  have HO := Lib.hid eo
  have hle := lostL_le b nx xs m
  rw [eo] at hle
  clear eo
  go_wp2_with (fail)
  refine (ints_at (impl_LostBatches_any b nx m _ I1.out) HO.out).mono ?_
  rintro e w2 ⟨A2, n2, c2, rfl, ho, hb⟩
  replace I1 := Lib.hid (I1.out.below hb (Nat.le_refl _))
  replace Q := Lib.hid (Q.out.on hb)
  replace B := Lib.hid (B.out.trans (hb.mono B.out.size))
  have I2 := Lib.hid ho.is
  clear hb
  have hn2 : n2 ≤ 8 := by have := I2.out.len; omega
  clear hle
  rcases Nat.eq_zero_or_pos n2 with h0 | h0
  · skip
    have hz : ((n2 : Int) == 0) = true := by simp [h0]
    clear h0
    obtain ⟨q0, q1, q2⟩ := Q.out.c3
    have ql := Q.out.lt
    go_wp2_with (fail)
    refine (ints_at (spec_LostBatches_any b nx m _ I1.out) HO.out).mono ?_
    clear q0 q1 q2 ql
    rintro e w3 ⟨A3, n3, c3, rfl, ho, hb⟩
    replace I1 := Lib.hid (I1.out.below hb (Nat.le_refl _))
    replace I2 := Lib.hid (I2.out.below hb (Nat.le_refl _))
    replace Q := Lib.hid (Q.out.on hb)
    replace B := Lib.hid (B.out.trans (hb.mono B.out.size))
    have I3 := Lib.hid ho.is
    clear hb
    go_wp2_with (fail)
    refine (equalInts_same _ I2.out I3.out).mono ?_
    rintro e w4 ⟨rfl, hb⟩
    replace I1 := Lib.hid (I1.out.below hb (Nat.le_refl _))
    replace I2 := Lib.hid (I2.out.below hb (Nat.le_refl _))
    replace I3 := Lib.hid (I3.out.below hb (Nat.le_refl _))
    replace Q := Lib.hid (Q.out.on hb)
    replace B := Lib.hid (B.out.trans (hb.mono B.out.size))
    clear hb
    obtain ⟨q0, q1, q2⟩ := Q.out.c3
    have ql := Q.out.lt
    go_wp2_with (fail)
    refine (ints_at (spec_LostBatches_any b nx m _ I1.out) HO.out).mono ?_
    clear q0 q1 q2 ql
    rintro e w5 ⟨A4, n4, c4, rfl, ho, hb⟩
    replace I1 := Lib.hid (I1.out.below hb (Nat.le_refl _))
    replace I2 := Lib.hid (I2.out.below hb (Nat.le_refl _))
    replace I3 := Lib.hid (I3.out.below hb (Nat.le_refl _))
    replace Q := Lib.hid (Q.out.on hb)
    replace B := Lib.hid (B.out.trans (hb.mono B.out.size))
    have I4 := Lib.hid ho.is
    clear hb
    go_wp2_with (fail)
    refine (equalInts_same _ I2.out I4.out).mono ?_
    rintro e w6 ⟨rfl, hb⟩
    replace I1 := Lib.hid (I1.out.below hb (Nat.le_refl _))
    replace I2 := Lib.hid (I2.out.below hb (Nat.le_refl _))
    replace I3 := Lib.hid (I3.out.below hb (Nat.le_refl _))
    replace I4 := Lib.hid (I4.out.below hb (Nat.le_refl _))
    replace Q := Lib.hid (Q.out.on hb)
    replace B := Lib.hid (B.out.trans (hb.mono B.out.size))
    clear hb
    go_wp2_with (fail)
    go_ret
    exact ⟨ret_bool (rfl), B.out⟩
  have hz : ((n2 : Int) == 0) = false := by simp; omega
  by_cases h8 : m = 8
  · skip
    have hz8 : (m == 8) = true := by simp [h8]
    clear h8
    obtain ⟨q0, q1, q2⟩ := Q.out.c3
    have ql := Q.out.lt
    go_wp2_with (fail)
    refine (ints_at (spec_LostBatches_any b nx m _ I1.out) HO.out).mono ?_
    clear q0 q1 q2 ql
    rintro e w3 ⟨A3, n3, c3, rfl, ho, hb⟩
    replace I1 := Lib.hid (I1.out.below hb (Nat.le_refl _))
    replace I2 := Lib.hid (I2.out.below hb (Nat.le_refl _))
    replace Q := Lib.hid (Q.out.on hb)
    replace B := Lib.hid (B.out.trans (hb.mono B.out.size))
    have I3 := Lib.hid ho.is
    clear hb
    go_wp2_with (fail)
    refine (equalInts_same _ I2.out I3.out).mono ?_
    rintro e w4 ⟨rfl, hb⟩
    replace I1 := Lib.hid (I1.out.below hb (Nat.le_refl _))
    replace I2 := Lib.hid (I2.out.below hb (Nat.le_refl _))
    replace I3 := Lib.hid (I3.out.below hb (Nat.le_refl _))
    replace Q := Lib.hid (Q.out.on hb)
    replace B := Lib.hid (B.out.trans (hb.mono B.out.size))
    clear hb
    obtain ⟨q0, q1, q2⟩ := Q.out.c3
    have ql := Q.out.lt
    go_wp2_with (fail)
    refine (ints_at (spec_LostBatches_any b nx m _ I1.out) HO.out).mono ?_
    clear q0 q1 q2 ql
    rintro e w5 ⟨A4, n4, c4, rfl, ho, hb⟩
    replace I1 := Lib.hid (I1.out.below hb (Nat.le_refl _))
    replace I2 := Lib.hid (I2.out.below hb (Nat.le_refl _))
    replace I3 := Lib.hid (I3.out.below hb (Nat.le_refl _))
    replace Q := Lib.hid (Q.out.on hb)
    replace B := Lib.hid (B.out.trans (hb.mono B.out.size))
    have I4 := Lib.hid ho.is
    clear hb
    go_wp2_with (fail)
    refine (equalInts_same _ I2.out I4.out).mono ?_
    rintro e w6 ⟨rfl, hb⟩
    replace I1 := Lib.hid (I1.out.below hb (Nat.le_refl _))
    replace I2 := Lib.hid (I2.out.below hb (Nat.le_refl _))
    replace I3 := Lib.hid (I3.out.below hb (Nat.le_refl _))
    replace I4 := Lib.hid (I4.out.below hb (Nat.le_refl _))
    replace Q := Lib.hid (Q.out.on hb)
    replace B := Lib.hid (B.out.trans (hb.mono B.out.size))
    clear hb
    go_wp2_with (fail)
    go_ret
    exact ⟨ret_bool (rfl), B.out⟩
  have hz8 : (m == 8) = false := by simp [h8]
  have hw1 : IntKind.i64.wrap (m + 1) = m + 1 := by rw [IntKind.wrap_i64]; omega
  obtain ⟨t1, t2⟩ := lost_more (b := b) (nx := nx) (xs := xs) (many := m) (by intro e; rw [HO.out] at e; have := I2.out.len; rw [e] at this; simp at this; omega) h8
  obtain ⟨ps, ep⟩ : ∃ v, lostL b nx xs (m + 1) = v := ⟨_, rfl⟩
  rw [HO.out, ep] at t1 t2
  have HP := Lib.hid ep
  have T1 := Lib.hid t1
  have T2 := Lib.hid t2
  clear ep t1 t2 h8
  obtain ⟨q0, q1, q2⟩ := Q.out.c3
  have ql := Q.out.lt
  go_wp2_with (fail)
  refine (ints_at (spec_LostBatches_any b nx m _ I1.out) HO.out).mono ?_
  clear q0 q1 q2 ql
  rintro e w3 ⟨A3, n3, c3, rfl, ho, hb⟩
  replace I1 := Lib.hid (I1.out.below hb (Nat.le_refl _))
  replace I2 := Lib.hid (I2.out.below hb (Nat.le_refl _))
  replace Q := Lib.hid (Q.out.on hb)
  replace B := Lib.hid (B.out.trans (hb.mono B.out.size))
  have I3 := Lib.hid ho.is
  clear hb
  go_wp2_with (fail)
  refine (equalInts_same _ I2.out I3.out).mono ?_
  rintro e w4 ⟨rfl, hb⟩
  replace I1 := Lib.hid (I1.out.below hb (Nat.le_refl _))
  replace I2 := Lib.hid (I2.out.below hb (Nat.le_refl _))
  replace I3 := Lib.hid (I3.out.below hb (Nat.le_refl _))
  replace Q := Lib.hid (Q.out.on hb)
  replace B := Lib.hid (B.out.trans (hb.mono B.out.size))
  clear hb
  obtain ⟨q0, q1, q2⟩ := Q.out.c3
  have ql := Q.out.lt
  go_wp2_with (fail)
  refine (ints_at (impl_LostBatches_any b nx (m + 1) _ I1.out) HP.out).mono ?_
  clear q0 q1 q2 ql
  rintro e w5 ⟨A4, n4, c4, rfl, ho, hb⟩
  replace I1 := Lib.hid (I1.out.below hb (Nat.le_refl _))
  replace I2 := Lib.hid (I2.out.below hb (Nat.le_refl _))
  replace I3 := Lib.hid (I3.out.below hb (Nat.le_refl _))
  replace Q := Lib.hid (Q.out.on hb)
  replace B := Lib.hid (B.out.trans (hb.mono B.out.size))
  have I4 := Lib.hid ho.is
  clear hb
  have hn4 : n4 ≤ n2 := by have h1 := I2.out.len; have h2 := I4.out.len; have h3 := T2.out; omega
  have hn4' : (n4 : Int) ≤ (n2 : Int) := by omega
  have hcap2 := I2.out.2.1
  have IU := Lib.hid (I2.out.upto hn4)
  have e4 : os.take n4 = ps := by rw [← I4.out.len]; exact T1.out.symm
  rw [e4] at IU
  clear e4
  go_wp2_with (fail)
  refine (equalInts_same _ IU.out I4.out).mono ?_
  rintro e w6 ⟨rfl, hb⟩
  replace I1 := Lib.hid (I1.out.below hb (Nat.le_refl _))
  replace I2 := Lib.hid (I2.out.below hb (Nat.le_refl _))
  replace I3 := Lib.hid (I3.out.below hb (Nat.le_refl _))
  replace I4 := Lib.hid (I4.out.below hb (Nat.le_refl _))
  replace IU := Lib.hid (IU.out.below hb (Nat.le_refl _))
  replace Q := Lib.hid (Q.out.on hb)
  replace B := Lib.hid (B.out.trans (hb.mono B.out.size))
  clear hb
  go_wp2_with (fail)
  go_ret
  exact ⟨ret_bool (rfl), B.out⟩
end Go.Proofs.Ytjljnjhdbojdeaa
