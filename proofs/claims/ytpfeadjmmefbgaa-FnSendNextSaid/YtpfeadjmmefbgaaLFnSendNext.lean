/-
  The walk of FnSendNext. (Its words were written by a program of my own.)
-/
import Derived.Deep.DrawnRows
import Derived.Test.YtpfeadjmmefbgaaWiN
import Derived.Lib.QuietBelow
import Derived.Deep.DeepMust
import Derived.Test.YtpfeadjmmefbgaaApp2
import Derived.Deep.RegionHeld3
namespace Go.Proofs.Ytpfeadjmmefbgaa
open Go.RowKit
attribute [local go_sem ↓] Go.wp_at_zero Go.wp_at_succ
-- CALL: W s0
set_option maxHeartbeats 4000000 in
theorem walk_FnSendNext {A : Option Addr} {n c : Nat} {zs : List Int} (w : World) (h : BS w A n c zs) :
    Calls Try.prog 3 #[.slice A n c] w fun e w' => e = .returned (.bool true) ∧ Below w.heap.size w w' := by
  have H := Lib.hid h
  clear h
  rcases Nat.lt_or_ge 1048576 n with h1 | h1
  · have h1' : (1048576 : Int) < (n : Int) := by omega
    go_enter Try.func3, Try.ntmps3
    go_wp2_with (fail)
    go_ret
    exact ⟨rfl, Below.refl _ _⟩
  have h1' : ¬ (1048576 : Int) < (n : Int) := by omega
  go_enter Try.func3, Try.ntmps3
  go_wp2_with (fail)
  refine (spec_DrawSendNext_any w H.out h1).mono ?_
  rintro e w1 ⟨b, nx, xs, A1, n1, c1, rfl, ⟨hb0, hb1⟩, ⟨hx0, hx1⟩, hn1, hI1, hb⟩
  have B := Lib.hid hb
  have I1 := Lib.hid hI1
  clear hb hI1
  replace I1 := Lib.hid (I1.out.alloc (.cells #[.int .i64 b, .int .i64 nx, .slice A1 n1 c1] 25))
  replace B := Lib.hid (B.out.alloc B.out.size (.cells #[.int .i64 b, .int .i64 nx, .slice A1 n1 c1] 25))
  have Q := Lib.hid (Blk.new w1 25 #[.int .i64 b, .int .i64 nx, .slice A1 n1 c1])
  rcases hk : snOK b nx xs with _ | _
  · skip
    have HK := Lib.hid hk
    clear hk
    go_wp2_with (fail)
    refine (sn_no (impl_SendNext_any b nx _ I1.out) HK.out).mono ?_
    rintro e w2 ⟨A2, n2, c2, rfl, ho, hb⟩
    replace I1 := Lib.hid (I1.out.below hb (Nat.le_refl _))
    replace Q := Lib.hid (Q.out.on hb)
    replace B := Lib.hid (B.out.trans (hb.mono B.out.size))
    have I2 := Lib.hid ho.is
    clear hb
    have Qp := Q
    replace Q := Lib.hid (Q.out.alloc (.cells #[.int .i64 0, .int .i64 0, .slice A2 n2 c2] 25))
    replace I1 := Lib.hid (I1.out.alloc (.cells #[.int .i64 0, .int .i64 0, .slice A2 n2 c2] 25))
    replace I2 := Lib.hid (I2.out.alloc (.cells #[.int .i64 0, .int .i64 0, .slice A2 n2 c2] 25))
    replace B := Lib.hid (B.out.alloc B.out.size (.cells #[.int .i64 0, .int .i64 0, .slice A2 n2 c2] 25))
    have F := Lib.hid (Blk.new w2 25 #[.int .i64 0, .int .i64 0, .slice A2 n2 c2])
    obtain ⟨q0, q1, q2⟩ := Qp.out.c3
    have ql := Qp.out.lt
    go_wp2_with (fail)
    refine (sn_no (spec_SendNext_any b nx _ I1.out) HK.out).mono ?_
    clear q0 q1 q2 ql
    rintro e w3 ⟨A3, n3, c3, rfl, ho, hb⟩
    replace I1 := Lib.hid (I1.out.below hb (Nat.le_refl _))
    replace I2 := Lib.hid (I2.out.below hb (Nat.le_refl _))
    replace Q := Lib.hid (Q.out.on hb)
    replace F := Lib.hid (F.out.on hb)
    replace B := Lib.hid (B.out.trans (hb.mono B.out.size))
    have I3 := Lib.hid ho.is
    clear hb
    replace Qp := Q
    replace Q := Lib.hid (Q.out.alloc (.cells #[.int .i64 0, .int .i64 0, .slice A3 n3 c3] 25))
    have Fp := F
    replace F := Lib.hid (F.out.alloc (.cells #[.int .i64 0, .int .i64 0, .slice A3 n3 c3] 25))
    replace I1 := Lib.hid (I1.out.alloc (.cells #[.int .i64 0, .int .i64 0, .slice A3 n3 c3] 25))
    replace I2 := Lib.hid (I2.out.alloc (.cells #[.int .i64 0, .int .i64 0, .slice A3 n3 c3] 25))
    replace I3 := Lib.hid (I3.out.alloc (.cells #[.int .i64 0, .int .i64 0, .slice A3 n3 c3] 25))
    replace B := Lib.hid (B.out.alloc B.out.size (.cells #[.int .i64 0, .int .i64 0, .slice A3 n3 c3] 25))
    have G := Lib.hid (Blk.new w3 25 #[.int .i64 0, .int .i64 0, .slice A3 n3 c3])
    obtain ⟨f0, f1, f2⟩ := Fp.out.c3
    have fl := Fp.out.lt
    go_wp2_with (fail)
    refine (equalWindow_same 0 0 _ I2.out I3.out).mono ?_
    clear f0 f1 f2 fl
    rintro e w4 ⟨rfl, hb⟩
    replace I1 := Lib.hid (I1.out.below hb (Nat.le_refl _))
    replace I2 := Lib.hid (I2.out.below hb (Nat.le_refl _))
    replace I3 := Lib.hid (I3.out.below hb (Nat.le_refl _))
    replace Q := Lib.hid (Q.out.on hb)
    replace F := Lib.hid (F.out.on hb)
    replace G := Lib.hid (G.out.on hb)
    replace B := Lib.hid (B.out.trans (hb.mono B.out.size))
    clear hb
    obtain ⟨f0, f1, f2⟩ := F.out.c3
    have fl := F.out.lt
    obtain ⟨g0, g1, g2⟩ := G.out.c3
    have gl := G.out.lt
    go_wp2_with (fail)
    refine (equalWindow_same 0 0 _ I2.out I3.out).mono ?_
    clear f0 f1 f2 fl g0 g1 g2 gl
    rintro e w5 ⟨rfl, hb⟩
    replace I1 := Lib.hid (I1.out.below hb (Nat.le_refl _))
    replace I2 := Lib.hid (I2.out.below hb (Nat.le_refl _))
    replace I3 := Lib.hid (I3.out.below hb (Nat.le_refl _))
    replace Q := Lib.hid (Q.out.on hb)
    replace F := Lib.hid (F.out.on hb)
    replace G := Lib.hid (G.out.on hb)
    replace B := Lib.hid (B.out.trans (hb.mono B.out.size))
    clear hb
    go_wp2_with (fail)
    go_ret
    exact ⟨ret_bool (rfl), B.out⟩
  have HK := Lib.hid hk
  have HV : Hid (winV b nx xs = true) := Lib.hid (by have h := hk; simp only [snOK, Bool.and_eq_true] at h; exact h.1)
  have h8 : nx < b + 8 := by have h := hk; simp only [snOK, Bool.and_eq_true, decide_eq_true_eq] at h; exact h.2
  obtain ⟨hv0, hv1, hv2, hv3, _⟩ := winV_facts HV.out
  have hnn : (nx == nx) = true := by simp
  have hnn2 : (nx != nx) = false := by simp
  clear hk
  go_wp2_with (fail)
  refine (sn_yes (impl_SendNext_any b nx _ I1.out) HK.out).mono ?_
  rintro e w2 ⟨A2, n2, c2, rfl, ho, hb⟩
  replace I1 := Lib.hid (I1.out.below hb (Nat.le_refl _))
  replace Q := Lib.hid (Q.out.on hb)
  replace B := Lib.hid (B.out.trans (hb.mono B.out.size))
  have I2 := Lib.hid ho.is
  clear hb
  have Qp := Q
  replace Q := Lib.hid (Q.out.alloc (.cells #[.int .i64 b, .int .i64 (nx + 1), .slice A2 n2 c2] 25))
  replace I1 := Lib.hid (I1.out.alloc (.cells #[.int .i64 b, .int .i64 (nx + 1), .slice A2 n2 c2] 25))
  replace I2 := Lib.hid (I2.out.alloc (.cells #[.int .i64 b, .int .i64 (nx + 1), .slice A2 n2 c2] 25))
  replace B := Lib.hid (B.out.alloc B.out.size (.cells #[.int .i64 b, .int .i64 (nx + 1), .slice A2 n2 c2] 25))
  have F := Lib.hid (Blk.new w2 25 #[.int .i64 b, .int .i64 (nx + 1), .slice A2 n2 c2])
  obtain ⟨q0, q1, q2⟩ := Qp.out.c3
  have ql := Qp.out.lt
  go_wp2_with (fail)
  refine (sn_yes (spec_SendNext_any b nx _ I1.out) HK.out).mono ?_
  clear q0 q1 q2 ql
  rintro e w3 ⟨A3, n3, c3, rfl, ho, hb⟩
  replace I1 := Lib.hid (I1.out.below hb (Nat.le_refl _))
  replace I2 := Lib.hid (I2.out.below hb (Nat.le_refl _))
  replace Q := Lib.hid (Q.out.on hb)
  replace F := Lib.hid (F.out.on hb)
  replace B := Lib.hid (B.out.trans (hb.mono B.out.size))
  have I3 := Lib.hid ho.is
  clear hb
  replace Qp := Q
  replace Q := Lib.hid (Q.out.alloc (.cells #[.int .i64 b, .int .i64 (nx + 1), .slice A3 n3 c3] 25))
  have Fp := F
  replace F := Lib.hid (F.out.alloc (.cells #[.int .i64 b, .int .i64 (nx + 1), .slice A3 n3 c3] 25))
  replace I1 := Lib.hid (I1.out.alloc (.cells #[.int .i64 b, .int .i64 (nx + 1), .slice A3 n3 c3] 25))
  replace I2 := Lib.hid (I2.out.alloc (.cells #[.int .i64 b, .int .i64 (nx + 1), .slice A3 n3 c3] 25))
  replace I3 := Lib.hid (I3.out.alloc (.cells #[.int .i64 b, .int .i64 (nx + 1), .slice A3 n3 c3] 25))
  replace B := Lib.hid (B.out.alloc B.out.size (.cells #[.int .i64 b, .int .i64 (nx + 1), .slice A3 n3 c3] 25))
  have G := Lib.hid (Blk.new w3 25 #[.int .i64 b, .int .i64 (nx + 1), .slice A3 n3 c3])
  obtain ⟨f0, f1, f2⟩ := Fp.out.c3
  have fl := Fp.out.lt
  go_wp2_with (fail)
  refine (equalWindow_same b (nx + 1) _ I2.out I3.out).mono ?_
  clear f0 f1 f2 fl
  rintro e w4 ⟨rfl, hb⟩
  replace I1 := Lib.hid (I1.out.below hb (Nat.le_refl _))
  replace I2 := Lib.hid (I2.out.below hb (Nat.le_refl _))
  replace I3 := Lib.hid (I3.out.below hb (Nat.le_refl _))
  replace Q := Lib.hid (Q.out.on hb)
  replace F := Lib.hid (F.out.on hb)
  replace G := Lib.hid (G.out.on hb)
  replace B := Lib.hid (B.out.trans (hb.mono B.out.size))
  clear hb
  have ZO := Lib.hid (send_open HV.out h8)
  have ZV := Lib.hid (send_win HV.out h8)
  obtain ⟨os, eo⟩ : ∃ v, openL b nx xs = v := ⟨_, rfl⟩
  have hle := openL_le b nx xs
  rw [eo] at ZO hle
  have HO := Lib.hid eo
  clear eo
  obtain ⟨f0, f1, f2⟩ := F.out.c3
  have fl := F.out.lt
  go_wp2_with (fail)
  refine (ints_at (impl_OpenBatches_any b (nx + 1) _ I2.out) ZO.out).mono ?_
  clear f0 f1 f2 fl
  rintro e w5 ⟨A4, n4, c4, rfl, ho, hb⟩
  replace I1 := Lib.hid (I1.out.below hb (Nat.le_refl _))
  replace I2 := Lib.hid (I2.out.below hb (Nat.le_refl _))
  replace I3 := Lib.hid (I3.out.below hb (Nat.le_refl _))
  replace Q := Lib.hid (Q.out.on hb)
  replace F := Lib.hid (F.out.on hb)
  replace G := Lib.hid (G.out.on hb)
  replace B := Lib.hid (B.out.trans (hb.mono B.out.size))
  have I4 := Lib.hid ho.is
  clear hb
  obtain ⟨p, hp⟩ : ∃ p, os.length = p := ⟨_, rfl⟩
  have hn4 : n4 = p + 1 := by have := I4.out.len; rw [List.length_append, hp] at this; simpa using this.symm
  rw [hp] at hle
  obtain ⟨g, off, v, rfl, hx, hc⟩ := I4.out.at_ (k := p) (by omega)
  have ev : nx = v := by
    rw [List.getElem?_append_right (by omega), hp, Nat.sub_self] at hx
    simpa using hx
  rw [← ev] at hc
  have hcap4 := I4.out.2.1
  have IU := Lib.hid (I4.out.upto (m := p) (by omega))
  have e4 : (os ++ [nx]).take p = os := by rw [← hp]; simp
  rw [e4] at IU
  have wp1 : IntKind.i64.wrap ((n4 : Int) - 1) = (p : Int) := by rw [IntKind.wrap_i64]; omega
  have zp0 : (0 : Int) ≤ (p : Int) := by omega
  have zp1 : (p : Int) < (n4 : Int) := by omega
  have zp2 : (p : Int) ≤ (c4 : Int) := by omega
  have z4 : (0 : Int) < (n4 : Int) := by omega
  have z4n : 0 < n4 := by omega
  have z4d : decide (0 < n4) = true := by simp; omega
  clear hn4 e4 ev hx hp hle
  obtain ⟨f0, f1, f2⟩ := F.out.c3
  obtain ⟨q0, q1, q2⟩ := Q.out.c3
  have fl := F.out.lt
  have ql := Q.out.lt
  go_wp2_with (fail)
  go_region_held3 (fun w' => w'.cell? ⟨w2.heap.size, 0, none⟩ = some (.int .i64 b) ∧ w'.cell? ⟨w2.heap.size, 1, none⟩ = some (.int .i64 (nx + 1)) ∧ w'.cell? ⟨w2.heap.size, 2, none⟩ = some (.slice A2 n2 c2) ∧ w'.cell? ⟨w1.heap.size, 0, none⟩ = some (.int .i64 b) ∧ w'.cell? ⟨w1.heap.size, 1, none⟩ = some (.int .i64 nx) ∧ w'.cell? ⟨w1.heap.size, 2, none⟩ = some (.slice A1 n1 c1) ∧ w'.cell? ⟨g, off + p, none⟩ = some (.int .i64 nx))
    (refine And.intro ?_ (And.intro ?_ (And.intro ?_ (And.intro ?_ (And.intro ?_ (And.intro ?_ ?_))))) <;> ((first | with_reducible refine cell_up (w := w5) ?_ f0 | with_reducible refine cell_up (w := w5) ?_ f1 | with_reducible refine cell_up (w := w5) ?_ f2 | with_reducible refine cell_up (w := w5) ?_ q0 | with_reducible refine cell_up (w := w5) ?_ q1 | with_reducible refine cell_up (w := w5) ?_ q2 | with_reducible refine cell_up (w := w5) ?_ hc); (repeat' (first | with_reducible exact HC.out | with_reducible exact HB.out | with_reducible exact HA.out | with_reducible exact Below.refl _ _ | with_reducible refine Below.drew ?_))))
    (first
      | (go_at_call 11; go_must (refine (call_bool (impl_ValidWindow_any b (nx + 1) _ (by first | exact I2.out.drew | exact I2.out)) ZV.out).mono ?_; rintro e wa ⟨rfl, hb⟩; have HA : Hid (Below w5.heap.size w5 wa) := Lib.hid (by first | exact hb | exact (Below.refl w5.heap.size w5).drew.trans hb); clear hb))
      | (go_at_call 10; go_must (refine (ints_at (impl_OpenBatches_any b nx _ (by first | exact I1.out.below HA.out (Nat.le_refl _) | exact (I1.out.below HA.out (Nat.le_refl _)).drew)) HO.out).mono ?_; rintro e wb ⟨A5, n5, c5, rfl, ho, hb⟩; have I5 := Lib.hid ho.is; have HB : Hid (Below w5.heap.size w5 wb) := Lib.hid (by first | exact HA.out.trans (hb.mono HA.out.size) | exact HA.out.drew.trans (hb.mono HA.out.size)); clear ho hb))
      | (go_at_call 12; go_must (refine (equalInts_same _ (by first | exact IU.out.below HB.out (Nat.le_refl _) | exact (IU.out.below HB.out (Nat.le_refl _)).drew) (by first | exact I5.out | exact I5.out.drew)).mono ?_; rintro e wc ⟨rfl, hb⟩; have HC : Hid (Below w5.heap.size w5 wc) := Lib.hid (by first | exact HB.out.trans (hb.mono HB.out.size) | exact HB.out.drew.trans (hb.mono HB.out.size)); clear hb)))
  all_goals (
    go_wp2_with (fail)
    go_ret
    exact ⟨rfl, B.out.trans (HC.out.mono B.out.size)⟩)
end Go.Proofs.Ytpfeadjmmefbgaa
