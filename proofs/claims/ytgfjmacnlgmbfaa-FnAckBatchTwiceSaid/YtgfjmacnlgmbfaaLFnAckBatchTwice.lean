/-
  The walk of FnAckBatchTwice. (Its words were written by a program of my own.)
-/
import Derived.Deep.DrawnRows
import Derived.Test.YtgfjmacnlgmbfaaWiN
import Derived.Lib.QuietBelow
import Derived.Deep.DeepMust
namespace Go.Proofs.Ytgfjmacnlgmbfaa
open Go.RowKit
attribute [local go_sem ↓] Go.wp_at_zero Go.wp_at_succ
-- CALL: W s0
set_option maxHeartbeats 4000000 in
theorem walk_FnAckBatchTwice {A : Option Addr} {n c : Nat} {zs : List Int} (w : World) (h : BS w A n c zs) :
    Calls Try.prog 7 #[.slice A n c] w fun e w' => e = .returned (.bool true) ∧ Below w.heap.size w w' := by
  have H := Lib.hid h
  clear h
  rcases Nat.lt_or_ge 1048576 n with h1 | h1
  · have h1' : (1048576 : Int) < (n : Int) := by omega
    go_enter Try.func7, Try.ntmps7
    go_wp2_with (fail)
    go_ret
    exact ⟨rfl, Below.refl _ _⟩
  have h1' : ¬ (1048576 : Int) < (n : Int) := by omega
  go_enter Try.func7, Try.ntmps7
  go_wp2_with (fail)
  refine (spec_DrawAckBatch_any w H.out h1).mono ?_
  rintro e w1 ⟨b, nx, xs, A1, n1, c1, m, rfl, ⟨hb0, hb1⟩, ⟨hx0, hx1⟩, hn1, ⟨hm0, hm1⟩, hI1, hb⟩
  have B := Lib.hid hb
  have I1 := Lib.hid hI1
  clear hb hI1
  replace I1 := Lib.hid (I1.out.alloc (.cells #[.int .i64 b, .int .i64 nx, .slice A1 n1 c1] 25))
  replace B := Lib.hid (B.out.alloc B.out.size (.cells #[.int .i64 b, .int .i64 nx, .slice A1 n1 c1] 25))
  have Q := Lib.hid (Blk.new w1 25 #[.int .i64 b, .int .i64 nx, .slice A1 n1 c1])
  rcases hk : akOK b nx xs m with _ | _
  · skip
    have HK := Lib.hid hk
    clear hk
    go_wp2_with (fail)
    refine (ak_no (impl_AckBatch_any b nx m _ I1.out) HK.out).mono ?_
    rintro e w2 ⟨A2, n2, c2, rfl, ho, hb⟩
    replace I1 := Lib.hid (I1.out.below hb (Nat.le_refl _))
    replace Q := Lib.hid (Q.out.on hb)
    replace B := Lib.hid (B.out.trans (hb.mono B.out.size))
    have I2 := Lib.hid ho.is
    clear hb
    have Qp := Q
    replace Q := Lib.hid (Q.out.alloc (.cells #[.int .i64 0, .int .i64 0, .slice A2 n2 c2] 25))
    replace I1 := Lib.hid (I1.out.alloc (.cells #[.int .i64 0, .int .i64 0, .slice A2 n2 c2] 25))
    replace I2 := Lib.hid (I2.out.alloc (.cells #[.int .i64 0, .int .i64 0, .slice A2 n2 c2] 25))
    replace B := Lib.hid (B.out.alloc B.out.size (.cells #[.int .i64 0, .int .i64 0, .slice A2 n2 c2] 25))
    have F := Lib.hid (Blk.new w2 25 #[.int .i64 0, .int .i64 0, .slice A2 n2 c2])
    obtain ⟨q0, q1, q2⟩ := Qp.out.c3
    have ql := Qp.out.lt
    go_wp2_with (fail)
    refine (ak_no (spec_AckBatch_any b nx m _ I1.out) HK.out).mono ?_
    clear q0 q1 q2 ql
    rintro e w3 ⟨A3, n3, c3, rfl, ho, hb⟩
    replace I1 := Lib.hid (I1.out.below hb (Nat.le_refl _))
    replace I2 := Lib.hid (I2.out.below hb (Nat.le_refl _))
    replace Q := Lib.hid (Q.out.on hb)
    replace F := Lib.hid (F.out.on hb)
    replace B := Lib.hid (B.out.trans (hb.mono B.out.size))
    have I3 := Lib.hid ho.is
    clear hb
    replace Qp := Q
    replace Q := Lib.hid (Q.out.alloc (.cells #[.int .i64 0, .int .i64 0, .slice A3 n3 c3] 25))
    have Fp := F
    replace F := Lib.hid (F.out.alloc (.cells #[.int .i64 0, .int .i64 0, .slice A3 n3 c3] 25))
    replace I1 := Lib.hid (I1.out.alloc (.cells #[.int .i64 0, .int .i64 0, .slice A3 n3 c3] 25))
    replace I2 := Lib.hid (I2.out.alloc (.cells #[.int .i64 0, .int .i64 0, .slice A3 n3 c3] 25))
    replace I3 := Lib.hid (I3.out.alloc (.cells #[.int .i64 0, .int .i64 0, .slice A3 n3 c3] 25))
    replace B := Lib.hid (B.out.alloc B.out.size (.cells #[.int .i64 0, .int .i64 0, .slice A3 n3 c3] 25))
    have G := Lib.hid (Blk.new w3 25 #[.int .i64 0, .int .i64 0, .slice A3 n3 c3])
    obtain ⟨f0, f1, f2⟩ := Fp.out.c3
    have fl := Fp.out.lt
    go_wp2_with (fail)
    refine (equalWindow_same 0 0 _ I2.out I3.out).mono ?_
    clear f0 f1 f2 fl
    rintro e w4 ⟨rfl, hb⟩
    replace I1 := Lib.hid (I1.out.below hb (Nat.le_refl _))
    replace I2 := Lib.hid (I2.out.below hb (Nat.le_refl _))
    replace I3 := Lib.hid (I3.out.below hb (Nat.le_refl _))
    replace Q := Lib.hid (Q.out.on hb)
    replace F := Lib.hid (F.out.on hb)
    replace G := Lib.hid (G.out.on hb)
    replace B := Lib.hid (B.out.trans (hb.mono B.out.size))
    clear hb
    obtain ⟨f0, f1, f2⟩ := F.out.c3
    have fl := F.out.lt
    obtain ⟨g0, g1, g2⟩ := G.out.c3
    have gl := G.out.lt
    go_wp2_with (fail)
    refine (equalWindow_same 0 0 _ I2.out I3.out).mono ?_
    clear f0 f1 f2 fl g0 g1 g2 gl
    rintro e w5 ⟨rfl, hb⟩
    replace I1 := Lib.hid (I1.out.below hb (Nat.le_refl _))
    replace I2 := Lib.hid (I2.out.below hb (Nat.le_refl _))
    replace I3 := Lib.hid (I3.out.below hb (Nat.le_refl _))
    replace Q := Lib.hid (Q.out.on hb)
    replace F := Lib.hid (F.out.on hb)
    replace G := Lib.hid (G.out.on hb)
    replace B := Lib.hid (B.out.trans (hb.mono B.out.size))
    clear hb
    go_wp2_with (fail)
    go_ret
    exact ⟨ret_bool (rfl), B.out⟩
  have HK := Lib.hid hk
  obtain ⟨u, eu⟩ : ∃ v, akU b nx xs m = v := ⟨_, rfl⟩
  obtain ⟨ys, ey⟩ : ∃ v, akL b nx xs m = v := ⟨_, rfl⟩
  obtain ⟨hu0, hu1, hu2, _⟩ := ak_facts hk
  obtain ⟨hv, hmm0, hmm1, _⟩ := akOK_iff.1 hk
  obtain ⟨hv0, hv1, hv2, hv3, _⟩ := winV_facts hv
  rw [eu] at hu0 hu1 hu2
  have HV := Lib.hid hv
  have HU := Lib.hid eu
  have HY := Lib.hid ey
  clear hk hv eu ey
  go_wp2_with (fail)
  refine (ak_yes (impl_AckBatch_any b nx m _ I1.out) HK.out HU.out HY.out).mono ?_
  rintro e w2 ⟨A2, n2, c2, rfl, ho, hb⟩
  replace I1 := Lib.hid (I1.out.below hb (Nat.le_refl _))
  replace Q := Lib.hid (Q.out.on hb)
  replace B := Lib.hid (B.out.trans (hb.mono B.out.size))
  have I2 := Lib.hid ho.is
  clear hb
  have Qp := Q
  replace Q := Lib.hid (Q.out.alloc (.cells #[.int .i64 u, .int .i64 nx, .slice A2 n2 c2] 25))
  replace I1 := Lib.hid (I1.out.alloc (.cells #[.int .i64 u, .int .i64 nx, .slice A2 n2 c2] 25))
  replace I2 := Lib.hid (I2.out.alloc (.cells #[.int .i64 u, .int .i64 nx, .slice A2 n2 c2] 25))
  replace B := Lib.hid (B.out.alloc B.out.size (.cells #[.int .i64 u, .int .i64 nx, .slice A2 n2 c2] 25))
  have F := Lib.hid (Blk.new w2 25 #[.int .i64 u, .int .i64 nx, .slice A2 n2 c2])
  obtain ⟨q0, q1, q2⟩ := Qp.out.c3
  have ql := Qp.out.lt
  go_wp2_with (fail)
  refine (ak_yes (spec_AckBatch_any b nx m _ I1.out) HK.out HU.out HY.out).mono ?_
  clear q0 q1 q2 ql
  rintro e w3 ⟨A3, n3, c3, rfl, ho, hb⟩
  replace I1 := Lib.hid (I1.out.below hb (Nat.le_refl _))
  replace I2 := Lib.hid (I2.out.below hb (Nat.le_refl _))
  replace Q := Lib.hid (Q.out.on hb)
  replace F := Lib.hid (F.out.on hb)
  replace B := Lib.hid (B.out.trans (hb.mono B.out.size))
  have I3 := Lib.hid ho.is
  clear hb
  replace Qp := Q
  replace Q := Lib.hid (Q.out.alloc (.cells #[.int .i64 u, .int .i64 nx, .slice A3 n3 c3] 25))
  have Fp := F
  replace F := Lib.hid (F.out.alloc (.cells #[.int .i64 u, .int .i64 nx, .slice A3 n3 c3] 25))
  replace I1 := Lib.hid (I1.out.alloc (.cells #[.int .i64 u, .int .i64 nx, .slice A3 n3 c3] 25))
  replace I2 := Lib.hid (I2.out.alloc (.cells #[.int .i64 u, .int .i64 nx, .slice A3 n3 c3] 25))
  replace I3 := Lib.hid (I3.out.alloc (.cells #[.int .i64 u, .int .i64 nx, .slice A3 n3 c3] 25))
  replace B := Lib.hid (B.out.alloc B.out.size (.cells #[.int .i64 u, .int .i64 nx, .slice A3 n3 c3] 25))
  have G := Lib.hid (Blk.new w3 25 #[.int .i64 u, .int .i64 nx, .slice A3 n3 c3])
  obtain ⟨f0, f1, f2⟩ := Fp.out.c3
  have fl := Fp.out.lt
  go_wp2_with (fail)
  refine (equalWindow_same u nx _ I2.out I3.out).mono ?_
  clear f0 f1 f2 fl
  rintro e w4 ⟨rfl, hb⟩
  replace I1 := Lib.hid (I1.out.below hb (Nat.le_refl _))
  replace I2 := Lib.hid (I2.out.below hb (Nat.le_refl _))
  replace I3 := Lib.hid (I3.out.below hb (Nat.le_refl _))
  replace Q := Lib.hid (Q.out.on hb)
  replace F := Lib.hid (F.out.on hb)
  replace G := Lib.hid (G.out.on hb)
  replace B := Lib.hid (B.out.trans (hb.mono B.out.size))
  clear hb
  obtain ⟨t1, t2, t3⟩ := ak_twice HK.out
  rw [HU.out, HY.out] at t1 t2 t3
  have T1 := Lib.hid t1
  have T2 := Lib.hid t2
  have T3 := Lib.hid t3
  clear t1 t2 t3
  obtain ⟨f0, f1, f2⟩ := F.out.c3
  have fl := F.out.lt
  go_wp2_with (fail)
  refine (ak_yes (impl_AckBatch_any u nx m _ I2.out) T1.out T2.out T3.out).mono ?_
  clear f0 f1 f2 fl
  rintro e w5 ⟨A4, n4, c4, rfl, ho, hb⟩
  replace I1 := Lib.hid (I1.out.below hb (Nat.le_refl _))
  replace I2 := Lib.hid (I2.out.below hb (Nat.le_refl _))
  replace I3 := Lib.hid (I3.out.below hb (Nat.le_refl _))
  replace Q := Lib.hid (Q.out.on hb)
  replace F := Lib.hid (F.out.on hb)
  replace G := Lib.hid (G.out.on hb)
  replace B := Lib.hid (B.out.trans (hb.mono B.out.size))
  have I4 := Lib.hid ho.is
  clear hb
  replace Qp := Q
  replace Q := Lib.hid (Q.out.alloc (.cells #[.int .i64 u, .int .i64 nx, .slice A4 n4 c4] 25))
  replace Fp := F
  replace F := Lib.hid (F.out.alloc (.cells #[.int .i64 u, .int .i64 nx, .slice A4 n4 c4] 25))
  have Gp := G
  replace G := Lib.hid (G.out.alloc (.cells #[.int .i64 u, .int .i64 nx, .slice A4 n4 c4] 25))
  replace I1 := Lib.hid (I1.out.alloc (.cells #[.int .i64 u, .int .i64 nx, .slice A4 n4 c4] 25))
  replace I2 := Lib.hid (I2.out.alloc (.cells #[.int .i64 u, .int .i64 nx, .slice A4 n4 c4] 25))
  replace I3 := Lib.hid (I3.out.alloc (.cells #[.int .i64 u, .int .i64 nx, .slice A4 n4 c4] 25))
  replace I4 := Lib.hid (I4.out.alloc (.cells #[.int .i64 u, .int .i64 nx, .slice A4 n4 c4] 25))
  replace B := Lib.hid (B.out.alloc B.out.size (.cells #[.int .i64 u, .int .i64 nx, .slice A4 n4 c4] 25))
  have K := Lib.hid (Blk.new w5 25 #[.int .i64 u, .int .i64 nx, .slice A4 n4 c4])
  obtain ⟨f0, f1, f2⟩ := Fp.out.c3
  have fl := Fp.out.lt
  go_wp2_with (fail)
  refine (equalWindow_same u nx _ I4.out I2.out).mono ?_
  clear f0 f1 f2 fl
  rintro e w6 ⟨rfl, hb⟩
  replace I1 := Lib.hid (I1.out.below hb (Nat.le_refl _))
  replace I2 := Lib.hid (I2.out.below hb (Nat.le_refl _))
  replace I3 := Lib.hid (I3.out.below hb (Nat.le_refl _))
  replace I4 := Lib.hid (I4.out.below hb (Nat.le_refl _))
  replace Q := Lib.hid (Q.out.on hb)
  replace F := Lib.hid (F.out.on hb)
  replace G := Lib.hid (G.out.on hb)
  replace K := Lib.hid (K.out.on hb)
  replace B := Lib.hid (B.out.trans (hb.mono B.out.size))
  clear hb
  obtain ⟨q0, q1, q2⟩ := Q.out.c3
  have ql := Q.out.lt
  obtain ⟨f0, f1, f2⟩ := F.out.c3
  have fl := F.out.lt
  go_wp2_with (fail)
  go_ret
  exact ⟨ret_bool (by first | rfl | (simp; done) | (simp; omega) | omega), B.out⟩
end Go.Proofs.Ytgfjmacnlgmbfaa
