/-
  The walk of FnAckBatchBase. (Its words were written by a program of my own.)
-/
import Derived.Deep.DrawnRows
import Derived.Test.YtgfjmacnlgmbfaaWiN
import Derived.Lib.QuietBelow
import Derived.Deep.DeepMust
namespace Go.Proofs.Ytgfjmacnlgmbfaa
open Go.RowKit
attribute [local go_sem ↓] Go.wp_at_zero Go.wp_at_succ
-- CALL: W s0
set_option maxHeartbeats 4000000 in
theorem walk_FnAckBatchBase {A : Option Addr} {n c : Nat} {zs : List Int} (w : World) (h : BS w A n c zs) :
    Calls Try.prog 14 #[.slice A n c] w fun e w' => e = .returned (.bool true) ∧ Below w.heap.size w w' := by
  have H := Lib.hid h
  clear h
  rcases Nat.lt_or_ge 1048576 n with h1 | h1
  · have h1' : (1048576 : Int) < (n : Int) := by omega
    go_enter Try.func14, Try.ntmps14
    go_wp2_with (fail)
    go_ret
    exact ⟨rfl, Below.refl _ _⟩
  have h1' : ¬ (1048576 : Int) < (n : Int) := by omega
  go_enter Try.func14, Try.ntmps14
  go_wp2_with (fail)
  refine (spec_DrawAckBatch_any w H.out h1).mono ?_
  rintro e w1 ⟨b, nx, xs, A1, n1, c1, m, rfl, ⟨hb0, hb1⟩, ⟨hx0, hx1⟩, hn1, ⟨hm0, hm1⟩, hI1, hb⟩
  have B := Lib.hid hb
  have I1 := Lib.hid hI1
  clear hb hI1
  replace I1 := Lib.hid (I1.out.alloc (.cells #[.int .i64 b, .int .i64 nx, .slice A1 n1 c1] 25))
  replace B := Lib.hid (B.out.alloc B.out.size (.cells #[.int .i64 b, .int .i64 nx, .slice A1 n1 c1] 25))
  have Q := Lib.hid (Blk.new w1 25 #[.int .i64 b, .int .i64 nx, .slice A1 n1 c1])
  rcases hk : akOK b nx xs m with _ | _
  · skip
    have HK := Lib.hid hk
    clear hk
    go_wp2_with (fail)
    refine (ak_no (impl_AckBatch_any b nx m _ I1.out) HK.out).mono ?_
    rintro e w2 ⟨A2, n2, c2, rfl, ho, hb⟩
    replace I1 := Lib.hid (I1.out.below hb (Nat.le_refl _))
    replace Q := Lib.hid (Q.out.on hb)
    replace B := Lib.hid (B.out.trans (hb.mono B.out.size))
    have I2 := Lib.hid ho.is
    clear hb
    have Qp := Q
    replace Q := Lib.hid (Q.out.alloc (.cells #[.int .i64 0, .int .i64 0, .slice A2 n2 c2] 25))
    replace I1 := Lib.hid (I1.out.alloc (.cells #[.int .i64 0, .int .i64 0, .slice A2 n2 c2] 25))
    replace I2 := Lib.hid (I2.out.alloc (.cells #[.int .i64 0, .int .i64 0, .slice A2 n2 c2] 25))
    replace B := Lib.hid (B.out.alloc B.out.size (.cells #[.int .i64 0, .int .i64 0, .slice A2 n2 c2] 25))
    have F := Lib.hid (Blk.new w2 25 #[.int .i64 0, .int .i64 0, .slice A2 n2 c2])
    obtain ⟨q0, q1, q2⟩ := Qp.out.c3
    have ql := Qp.out.lt
    go_wp2_with (fail)
    refine (ak_no (spec_AckBatch_any b nx m _ I1.out) HK.out).mono ?_
    clear q0 q1 q2 ql
    rintro e w3 ⟨A3, n3, c3, rfl, ho, hb⟩
    replace I1 := Lib.hid (I1.out.below hb (Nat.le_refl _))
    replace I2 := Lib.hid (I2.out.below hb (Nat.le_refl _))
    replace Q := Lib.hid (Q.out.on hb)
    replace F := Lib.hid (F.out.on hb)
    replace B := Lib.hid (B.out.trans (hb.mono B.out.size))
    have I3 := Lib.hid ho.is
    clear hb
    replace Qp := Q
    replace Q := Lib.hid (Q.out.alloc (.cells #[.int .i64 0, .int .i64 0, .slice A3 n3 c3] 25))
    have Fp := F
    replace F := Lib.hid (F.out.alloc (.cells #[.int .i64 0, .int .i64 0, .slice A3 n3 c3] 25))
    replace I1 := Lib.hid (I1.out.alloc (.cells #[.int .i64 0, .int .i64 0, .slice A3 n3 c3] 25))
    replace I2 := Lib.hid (I2.out.alloc (.cells #[.int .i64 0, .int .i64 0, .slice A3 n3 c3] 25))
    replace I3 := Lib.hid (I3.out.alloc (.cells #[.int .i64 0, .int .i64 0, .slice A3 n3 c3] 25))
    replace B := Lib.hid (B.out.alloc B.out.size (.cells #[.int .i64 0, .int .i64 0, .slice A3 n3 c3] 25))
    have G := Lib.hid (Blk.new w3 25 #[.int .i64 0, .int .i64 0, .slice A3 n3 c3])
    obtain ⟨f0, f1, f2⟩ := Fp.out.c3
    have fl := Fp.out.lt
    go_wp2_with (fail)
    refine (equalWindow_same 0 0 _ I2.out I3.out).mono ?_
    clear f0 f1 f2 fl
    rintro e w4 ⟨rfl, hb⟩
    replace I1 := Lib.hid (I1.out.below hb (Nat.le_refl _))
    replace I2 := Lib.hid (I2.out.below hb (Nat.le_refl _))
    replace I3 := Lib.hid (I3.out.below hb (Nat.le_refl _))
    replace Q := Lib.hid (Q.out.on hb)
    replace F := Lib.hid (F.out.on hb)
    replace G := Lib.hid (G.out.on hb)
    replace B := Lib.hid (B.out.trans (hb.mono B.out.size))
    clear hb
    obtain ⟨f0, f1, f2⟩ := F.out.c3
    have fl := F.out.lt
    obtain ⟨g0, g1, g2⟩ := G.out.c3
    have gl := G.out.lt
    go_wp2_with (fail)
    refine (equalWindow_same 0 0 _ I2.out I3.out).mono ?_
    clear f0 f1 f2 fl g0 g1 g2 gl
    rintro e w5 ⟨rfl, hb⟩
    replace I1 := Lib.hid (I1.out.below hb (Nat.le_refl _))
    replace I2 := Lib.hid (I2.out.below hb (Nat.le_refl _))
    replace I3 := Lib.hid (I3.out.below hb (Nat.le_refl _))
    replace Q := Lib.hid (Q.out.on hb)
    replace F := Lib.hid (F.out.on hb)
    replace G := Lib.hid (G.out.on hb)
    replace B := Lib.hid (B.out.trans (hb.mono B.out.size))
    clear hb
    go_wp2_with (fail)
    go_ret
    exact ⟨ret_bool (rfl), B.out⟩
  have HK := Lib.hid hk
  obtain ⟨u, eu⟩ : ∃ v, akU b nx xs m = v := ⟨_, rfl⟩
  obtain ⟨ys, ey⟩ : ∃ v, akL b nx xs m = v := ⟨_, rfl⟩
  obtain ⟨hu0, hu1, hu2, _⟩ := ak_facts hk
  obtain ⟨hv, hmm0, hmm1, _⟩ := akOK_iff.1 hk
  obtain ⟨hv0, hv1, hv2, hv3, _⟩ := winV_facts hv
  rw [eu] at hu0 hu1 hu2
  have HV := Lib.hid hv
  have HU := Lib.hid eu
  have HY := Lib.hid ey
  clear hk hv eu ey
  go_wp2_with (fail)
  refine (ak_yes (impl_AckBatch_any b nx m _ I1.out) HK.out HU.out HY.out).mono ?_
  rintro e w2 ⟨A2, n2, c2, rfl, ho, hb⟩
  replace I1 := Lib.hid (I1.out.below hb (Nat.le_refl _))
  replace Q := Lib.hid (Q.out.on hb)
  replace B := Lib.hid (B.out.trans (hb.mono B.out.size))
  have I2 := Lib.hid ho.is
  clear hb
  have Qp := Q
  replace Q := Lib.hid (Q.out.alloc (.cells #[.int .i64 u, .int .i64 nx, .slice A2 n2 c2] 25))
  replace I1 := Lib.hid (I1.out.alloc (.cells #[.int .i64 u, .int .i64 nx, .slice A2 n2 c2] 25))
  replace I2 := Lib.hid (I2.out.alloc (.cells #[.int .i64 u, .int .i64 nx, .slice A2 n2 c2] 25))
  replace B := Lib.hid (B.out.alloc B.out.size (.cells #[.int .i64 u, .int .i64 nx, .slice A2 n2 c2] 25))
  have F := Lib.hid (Blk.new w2 25 #[.int .i64 u, .int .i64 nx, .slice A2 n2 c2])
  obtain ⟨q0, q1, q2⟩ := Qp.out.c3
  have ql := Qp.out.lt
  go_wp2_with (fail)
  refine (ak_yes (spec_AckBatch_any b nx m _ I1.out) HK.out HU.out HY.out).mono ?_
  clear q0 q1 q2 ql
  rintro e w3 ⟨A3, n3, c3, rfl, ho, hb⟩
  replace I1 := Lib.hid (I1.out.below hb (Nat.le_refl _))
  replace I2 := Lib.hid (I2.out.below hb (Nat.le_refl _))
  replace Q := Lib.hid (Q.out.on hb)
  replace F := Lib.hid (F.out.on hb)
  replace B := Lib.hid (B.out.trans (hb.mono B.out.size))
  have I3 := Lib.hid ho.is
  clear hb
  replace Qp := Q
  replace Q := Lib.hid (Q.out.alloc (.cells #[.int .i64 u, .int .i64 nx, .slice A3 n3 c3] 25))
  have Fp := F
  replace F := Lib.hid (F.out.alloc (.cells #[.int .i64 u, .int .i64 nx, .slice A3 n3 c3] 25))
  replace I1 := Lib.hid (I1.out.alloc (.cells #[.int .i64 u, .int .i64 nx, .slice A3 n3 c3] 25))
  replace I2 := Lib.hid (I2.out.alloc (.cells #[.int .i64 u, .int .i64 nx, .slice A3 n3 c3] 25))
  replace I3 := Lib.hid (I3.out.alloc (.cells #[.int .i64 u, .int .i64 nx, .slice A3 n3 c3] 25))
  replace B := Lib.hid (B.out.alloc B.out.size (.cells #[.int .i64 u, .int .i64 nx, .slice A3 n3 c3] 25))
  have G := Lib.hid (Blk.new w3 25 #[.int .i64 u, .int .i64 nx, .slice A3 n3 c3])
  obtain ⟨f0, f1, f2⟩ := Fp.out.c3
  have fl := Fp.out.lt
  go_wp2_with (fail)
  refine (equalWindow_same u nx _ I2.out I3.out).mono ?_
  clear f0 f1 f2 fl
  rintro e w4 ⟨rfl, hb⟩
  replace I1 := Lib.hid (I1.out.below hb (Nat.le_refl _))
  replace I2 := Lib.hid (I2.out.below hb (Nat.le_refl _))
  replace I3 := Lib.hid (I3.out.below hb (Nat.le_refl _))
  replace Q := Lib.hid (Q.out.on hb)
  replace F := Lib.hid (F.out.on hb)
  replace G := Lib.hid (G.out.on hb)
  replace B := Lib.hid (B.out.trans (hb.mono B.out.size))
  clear hb
  obtain ⟨os, eo⟩ : ∃ v, openL b nx xs = v := ⟨_, rfl⟩
  have HO := Lib.hid eo
  clear eo
  obtain ⟨q0, q1, q2⟩ := Q.out.c3
  have ql := Q.out.lt
  go_wp2_with (fail)
  refine (ints_at (impl_OpenBatches_any b nx _ I1.out) HO.out).mono ?_
  clear q0 q1 q2 ql
  rintro e w5 ⟨A4, n4, c4, rfl, ho, hb⟩
  replace I1 := Lib.hid (I1.out.below hb (Nat.le_refl _))
  replace I2 := Lib.hid (I2.out.below hb (Nat.le_refl _))
  replace I3 := Lib.hid (I3.out.below hb (Nat.le_refl _))
  replace Q := Lib.hid (Q.out.on hb)
  replace F := Lib.hid (F.out.on hb)
  replace G := Lib.hid (G.out.on hb)
  replace B := Lib.hid (B.out.trans (hb.mono B.out.size))
  have I4 := Lib.hid ho.is
  clear hb
  by_cases hmb : m = b
  · skip
    have hmb1 : (m != b) = false := by simp [hmb]
    have hbn : b < nx := by omega
    obtain ⟨r, hr, _⟩ := open_head HV.out hbn
    obtain ⟨g1, g2⟩ := (ak_base HK.out).2 hmb r hr
    rw [HO.out] at hr
    rw [HU.out] at g1 g2
    have hlen : n4 = r.length + 1 := by have := I4.out.len; rw [hr] at this; simpa using this.symm
    have hz : ((n4 : Int) == 0) = false := by simp; omega
    clear hmb
    rcases r with _ | ⟨y, q⟩
    · skip
      have e1 : u = nx := g1 rfl
      have hz1 : ((n4 : Int) == 1) = true := by simp at hlen; simp; omega
      have E1 := Lib.hid e1
      clear e1 g1 g2 hlen hr
      obtain ⟨q0, q1, q2⟩ := Q.out.c3
      have ql := Q.out.lt
      obtain ⟨f0, f1, f2⟩ := F.out.c3
      have fl := F.out.lt
      go_wp2_with (fail)
      go_ret
      exact ⟨ret_bool (by simp [E1.out]), B.out⟩
    have e1 : u = y := g2 y q rfl
    have hz1 : ((n4 : Int) == 1) = false := by simp at hlen; simp; omega
    obtain ⟨g, off, v, rfl, hx, hc⟩ := I4.out.at_ (k := 1) (by simp at hlen; omega)
    rw [hr] at hx
    obtain rfl : y = v := by simpa using hx
    have E1 := Lib.hid e1
    have hl1 : (1 : Int) < (n4 : Int) := by simp at hlen; omega
    have hl2 : 1 < n4 := by omega
    clear e1 g1 g2 hlen hr hx
    obtain ⟨q0, q1, q2⟩ := Q.out.c3
    have ql := Q.out.lt
    obtain ⟨f0, f1, f2⟩ := F.out.c3
    have fl := F.out.lt
    go_wp2_with (fail)
    go_quiet (fail)
    go_wp2_with (fail)
    go_ret
    exact ⟨ret_bool (by simp [E1.out]), below_drewN B.out _⟩
  have hmb1 : (m != b) = true := by simp [hmb]
  have hmb2 : (m == b) = false := by simp [hmb]
  have E1 : Hid (u = b) := Lib.hid (by
    rcases Int.lt_or_le b nx with h9 | h9
    · have h8 := (ak_base HK.out).1 hmb h9
      rw [HU.out] at h8
      exact h8
    · omega)
  clear hmb
  obtain ⟨q0, q1, q2⟩ := Q.out.c3
  have ql := Q.out.lt
  obtain ⟨f0, f1, f2⟩ := F.out.c3
  have fl := F.out.lt
  go_wp2_with (fail)
  go_ret
  exact ⟨ret_bool (by simp [E1.out]), B.out⟩
end Go.Proofs.Ytgfjmacnlgmbfaa
