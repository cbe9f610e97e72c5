/-
  The walk of FnSendNextFull. (Its words were written by a program of my own.)
-/
import Derived.Deep.DrawnRows
import Derived.Test.YtgfjmacnlgmbfaaWiN
import Derived.Lib.QuietBelow
import Derived.Deep.DeepMust
namespace Go.Proofs.Ytgfjmacnlgmbfaa
open Go.RowKit
attribute [local go_sem ↓] Go.wp_at_zero Go.wp_at_succ
-- CALL: W s0
set_option maxHeartbeats 4000000 in
theorem walk_FnSendNextFull {A : Option Addr} {n c : Nat} {zs : List Int} (w : World) (h : BS w A n c zs) :
    Calls Try.prog 5 #[.slice A n c] w fun e w' => e = .returned (.bool true) ∧ Below w.heap.size w w' := by
  have H := Lib.hid h
  clear h
  rcases Nat.lt_or_ge 1048576 n with h1 | h1
  · have h1' : (1048576 : Int) < (n : Int) := by omega
    go_enter Try.func5, Try.ntmps5
    go_wp2_with (fail)
    go_ret
    exact ⟨rfl, Below.refl _ _⟩
  have h1' : ¬ (1048576 : Int) < (n : Int) := by omega
  go_enter Try.func5, Try.ntmps5
  go_wp2_with (fail)
  refine (spec_DrawSendNext_any w H.out h1).mono ?_
  rintro e w1 ⟨b, nx, xs, A1, n1, c1, rfl, ⟨hb0, hb1⟩, ⟨hx0, hx1⟩, hn1, hI1, hb⟩
  have B := Lib.hid hb
  have I1 := Lib.hid hI1
  clear hb hI1
  replace I1 := Lib.hid (I1.out.alloc (.cells #[.int .i64 b, .int .i64 nx, .slice A1 n1 c1] 25))
  replace B := Lib.hid (B.out.alloc B.out.size (.cells #[.int .i64 b, .int .i64 nx, .slice A1 n1 c1] 25))
  have Q := Lib.hid (Blk.new w1 25 #[.int .i64 b, .int .i64 nx, .slice A1 n1 c1])
  rcases hk : snOK b nx xs with _ | _
  · skip
    have HK := Lib.hid hk
    clear hk
    go_wp2_with (fail)
    refine (sn_no (impl_SendNext_any b nx _ I1.out) HK.out).mono ?_
    rintro e w2 ⟨A2, n2, c2, rfl, ho, hb⟩
    replace I1 := Lib.hid (I1.out.below hb (Nat.le_refl _))
    replace Q := Lib.hid (Q.out.on hb)
    replace B := Lib.hid (B.out.trans (hb.mono B.out.size))
    have I2 := Lib.hid ho.is
    clear hb
    have Qp := Q
    replace Q := Lib.hid (Q.out.alloc (.cells #[.int .i64 0, .int .i64 0, .slice A2 n2 c2] 25))
    replace I1 := Lib.hid (I1.out.alloc (.cells #[.int .i64 0, .int .i64 0, .slice A2 n2 c2] 25))
    replace I2 := Lib.hid (I2.out.alloc (.cells #[.int .i64 0, .int .i64 0, .slice A2 n2 c2] 25))
    replace B := Lib.hid (B.out.alloc B.out.size (.cells #[.int .i64 0, .int .i64 0, .slice A2 n2 c2] 25))
    have F := Lib.hid (Blk.new w2 25 #[.int .i64 0, .int .i64 0, .slice A2 n2 c2])
    obtain ⟨q0, q1, q2⟩ := Qp.out.c3
    have ql := Qp.out.lt
    go_wp2_with (fail)
    refine (sn_no (spec_SendNext_any b nx _ I1.out) HK.out).mono ?_
    clear q0 q1 q2 ql
    rintro e w3 ⟨A3, n3, c3, rfl, ho, hb⟩
    replace I1 := Lib.hid (I1.out.below hb (Nat.le_refl _))
    replace I2 := Lib.hid (I2.out.below hb (Nat.le_refl _))
    replace Q := Lib.hid (Q.out.on hb)
    replace F := Lib.hid (F.out.on hb)
    replace B := Lib.hid (B.out.trans (hb.mono B.out.size))
    have I3 := Lib.hid ho.is
    clear hb
    replace Qp := Q
    replace Q := Lib.hid (Q.out.alloc (.cells #[.int .i64 0, .int .i64 0, .slice A3 n3 c3] 25))
    have Fp := F
    replace F := Lib.hid (F.out.alloc (.cells #[.int .i64 0, .int .i64 0, .slice A3 n3 c3] 25))
    replace I1 := Lib.hid (I1.out.alloc (.cells #[.int .i64 0, .int .i64 0, .slice A3 n3 c3] 25))
    replace I2 := Lib.hid (I2.out.alloc (.cells #[.int .i64 0, .int .i64 0, .slice A3 n3 c3] 25))
    replace I3 := Lib.hid (I3.out.alloc (.cells #[.int .i64 0, .int .i64 0, .slice A3 n3 c3] 25))
    replace B := Lib.hid (B.out.alloc B.out.size (.cells #[.int .i64 0, .int .i64 0, .slice A3 n3 c3] 25))
    have G := Lib.hid (Blk.new w3 25 #[.int .i64 0, .int .i64 0, .slice A3 n3 c3])
    obtain ⟨f0, f1, f2⟩ := Fp.out.c3
    have fl := Fp.out.lt
    go_wp2_with (fail)
    refine (equalWindow_same 0 0 _ I2.out I3.out).mono ?_
    clear f0 f1 f2 fl
    rintro e w4 ⟨rfl, hb⟩
    replace I1 := Lib.hid (I1.out.below hb (Nat.le_refl _))
    replace I2 := Lib.hid (I2.out.below hb (Nat.le_refl _))
    replace I3 := Lib.hid (I3.out.below hb (Nat.le_refl _))
    replace Q := Lib.hid (Q.out.on hb)
    replace F := Lib.hid (F.out.on hb)
    replace G := Lib.hid (G.out.on hb)
    replace B := Lib.hid (B.out.trans (hb.mono B.out.size))
    clear hb
    rcases hv : winV b nx xs with _ | _
    · skip
      obtain ⟨q0, q1, q2⟩ := Q.out.c3
      have ql := Q.out.lt
      go_wp2_with (fail)
      refine (call_bool (impl_ValidWindow_any b nx _ I1.out) hv).mono ?_
      clear q0 q1 q2 ql
      rintro e w5 ⟨rfl, hb⟩
      replace I1 := Lib.hid (I1.out.below hb (Nat.le_refl _))
      replace I2 := Lib.hid (I2.out.below hb (Nat.le_refl _))
      replace I3 := Lib.hid (I3.out.below hb (Nat.le_refl _))
      replace Q := Lib.hid (Q.out.on hb)
      replace F := Lib.hid (F.out.on hb)
      replace G := Lib.hid (G.out.on hb)
      replace B := Lib.hid (B.out.trans (hb.mono B.out.size))
      clear hb
      obtain ⟨f0, f1, f2⟩ := F.out.c3
      have fl := F.out.lt
      obtain ⟨g0, g1, g2⟩ := G.out.c3
      have gl := G.out.lt
      go_wp2_with (fail)
      refine (equalWindow_same 0 0 _ I2.out I3.out).mono ?_
      clear f0 f1 f2 fl g0 g1 g2 gl
      rintro e w6 ⟨rfl, hb⟩
      replace I1 := Lib.hid (I1.out.below hb (Nat.le_refl _))
      replace I2 := Lib.hid (I2.out.below hb (Nat.le_refl _))
      replace I3 := Lib.hid (I3.out.below hb (Nat.le_refl _))
      replace Q := Lib.hid (Q.out.on hb)
      replace F := Lib.hid (F.out.on hb)
      replace G := Lib.hid (G.out.on hb)
      replace B := Lib.hid (B.out.trans (hb.mono B.out.size))
      clear hb
      go_wp2_with (fail)
      go_ret
      exact ⟨ret_bool (rfl), B.out⟩
    obtain ⟨hv0, hv1, hv2, hv3, _⟩ := winV_facts hv
    have h8 : ¬ nx < b + 8 := by have h := HK.out; simp only [snOK, hv, Bool.true_and, decide_eq_false_iff_not] at h; exact h
    obtain ⟨q0, q1, q2⟩ := Q.out.c3
    have ql := Q.out.lt
    go_wp2_with (fail)
    refine (call_bool (impl_ValidWindow_any b nx _ I1.out) hv).mono ?_
    clear q0 q1 q2 ql
    rintro e w5 ⟨rfl, hb⟩
    replace I1 := Lib.hid (I1.out.below hb (Nat.le_refl _))
    replace I2 := Lib.hid (I2.out.below hb (Nat.le_refl _))
    replace I3 := Lib.hid (I3.out.below hb (Nat.le_refl _))
    replace Q := Lib.hid (Q.out.on hb)
    replace F := Lib.hid (F.out.on hb)
    replace G := Lib.hid (G.out.on hb)
    replace B := Lib.hid (B.out.trans (hb.mono B.out.size))
    clear hb
    have hw8 : IntKind.i64.wrap (b + 8) = b + 8 := by rw [IntKind.wrap_i64]; omega
    obtain ⟨q0, q1, q2⟩ := Q.out.c3
    have ql := Q.out.lt
    go_wp2_with (fail)
    go_ret
    exact ⟨ret_bool (by simp [h8]), B.out⟩
  have HK := Lib.hid hk
  have HV : Hid (winV b nx xs = true) := Lib.hid (by have h := hk; simp only [snOK, Bool.and_eq_true] at h; exact h.1)
  have h8 : nx < b + 8 := by have h := hk; simp only [snOK, Bool.and_eq_true, decide_eq_true_eq] at h; exact h.2
  obtain ⟨hv0, hv1, hv2, hv3, _⟩ := winV_facts HV.out
  have hnn : (nx == nx) = true := by simp
  have hnn2 : (nx != nx) = false := by simp
  clear hk
  go_wp2_with (fail)
  refine (sn_yes (impl_SendNext_any b nx _ I1.out) HK.out).mono ?_
  rintro e w2 ⟨A2, n2, c2, rfl, ho, hb⟩
  replace I1 := Lib.hid (I1.out.below hb (Nat.le_refl _))
  replace Q := Lib.hid (Q.out.on hb)
  replace B := Lib.hid (B.out.trans (hb.mono B.out.size))
  have I2 := Lib.hid ho.is
  clear hb
  have Qp := Q
  replace Q := Lib.hid (Q.out.alloc (.cells #[.int .i64 b, .int .i64 (nx + 1), .slice A2 n2 c2] 25))
  replace I1 := Lib.hid (I1.out.alloc (.cells #[.int .i64 b, .int .i64 (nx + 1), .slice A2 n2 c2] 25))
  replace I2 := Lib.hid (I2.out.alloc (.cells #[.int .i64 b, .int .i64 (nx + 1), .slice A2 n2 c2] 25))
  replace B := Lib.hid (B.out.alloc B.out.size (.cells #[.int .i64 b, .int .i64 (nx + 1), .slice A2 n2 c2] 25))
  have F := Lib.hid (Blk.new w2 25 #[.int .i64 b, .int .i64 (nx + 1), .slice A2 n2 c2])
  obtain ⟨q0, q1, q2⟩ := Qp.out.c3
  have ql := Qp.out.lt
  go_wp2_with (fail)
  refine (sn_yes (spec_SendNext_any b nx _ I1.out) HK.out).mono ?_
  clear q0 q1 q2 ql
  rintro e w3 ⟨A3, n3, c3, rfl, ho, hb⟩
  replace I1 := Lib.hid (I1.out.below hb (Nat.le_refl _))
  replace I2 := Lib.hid (I2.out.below hb (Nat.le_refl _))
  replace Q := Lib.hid (Q.out.on hb)
  replace F := Lib.hid (F.out.on hb)
  replace B := Lib.hid (B.out.trans (hb.mono B.out.size))
  have I3 := Lib.hid ho.is
  clear hb
  replace Qp := Q
  replace Q := Lib.hid (Q.out.alloc (.cells #[.int .i64 b, .int .i64 (nx + 1), .slice A3 n3 c3] 25))
  have Fp := F
  replace F := Lib.hid (F.out.alloc (.cells #[.int .i64 b, .int .i64 (nx + 1), .slice A3 n3 c3] 25))
  replace I1 := Lib.hid (I1.out.alloc (.cells #[.int .i64 b, .int .i64 (nx + 1), .slice A3 n3 c3] 25))
  replace I2 := Lib.hid (I2.out.alloc (.cells #[.int .i64 b, .int .i64 (nx + 1), .slice A3 n3 c3] 25))
  replace I3 := Lib.hid (I3.out.alloc (.cells #[.int .i64 b, .int .i64 (nx + 1), .slice A3 n3 c3] 25))
  replace B := Lib.hid (B.out.alloc B.out.size (.cells #[.int .i64 b, .int .i64 (nx + 1), .slice A3 n3 c3] 25))
  have G := Lib.hid (Blk.new w3 25 #[.int .i64 b, .int .i64 (nx + 1), .slice A3 n3 c3])
  obtain ⟨f0, f1, f2⟩ := Fp.out.c3
  have fl := Fp.out.lt
  go_wp2_with (fail)
  refine (equalWindow_same b (nx + 1) _ I2.out I3.out).mono ?_
  clear f0 f1 f2 fl
  rintro e w4 ⟨rfl, hb⟩
  replace I1 := Lib.hid (I1.out.below hb (Nat.le_refl _))
  replace I2 := Lib.hid (I2.out.below hb (Nat.le_refl _))
  replace I3 := Lib.hid (I3.out.below hb (Nat.le_refl _))
  replace Q := Lib.hid (Q.out.on hb)
  replace F := Lib.hid (F.out.on hb)
  replace G := Lib.hid (G.out.on hb)
  replace B := Lib.hid (B.out.trans (hb.mono B.out.size))
  clear hb
  obtain ⟨q0, q1, q2⟩ := Q.out.c3
  have ql := Q.out.lt
  go_wp2_with (fail)
  refine (call_bool (impl_ValidWindow_any b nx _ I1.out) HV.out).mono ?_
  clear q0 q1 q2 ql
  rintro e w5 ⟨rfl, hb⟩
  replace I1 := Lib.hid (I1.out.below hb (Nat.le_refl _))
  replace I2 := Lib.hid (I2.out.below hb (Nat.le_refl _))
  replace I3 := Lib.hid (I3.out.below hb (Nat.le_refl _))
  replace Q := Lib.hid (Q.out.on hb)
  replace F := Lib.hid (F.out.on hb)
  replace G := Lib.hid (G.out.on hb)
  replace B := Lib.hid (B.out.trans (hb.mono B.out.size))
  clear hb
  have hw8 : IntKind.i64.wrap (b + 8) = b + 8 := by rw [IntKind.wrap_i64]; omega
  obtain ⟨q0, q1, q2⟩ := Q.out.c3
  have ql := Q.out.lt
  go_wp2_with (fail)
  go_ret
  exact ⟨ret_bool (by simp [h8]), B.out⟩
end Go.Proofs.Ytgfjmacnlgmbfaa
