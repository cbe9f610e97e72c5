/-
  The walk of FnSendNextAck. (Its words were written by a program of my own.)
-/
import Derived.Deep.DrawnRows
import Derived.Test.YtgfjmacnlgmbfaaWiN
import Derived.Lib.QuietBelow
import Derived.Deep.DeepMust
import Derived.Test.YtgfjmacnlgmbfaaApp2
import Derived.Deep.RegionLaw
namespace Go.Proofs.Ytgfjmacnlgmbfaa
open Go.RowKit
attribute [local go_sem ↓] Go.wp_at_zero Go.wp_at_succ
-- CALL: W s0
set_option maxHeartbeats 4000000 in
theorem walk_FnSendNextAck {A : Option Addr} {n c : Nat} {zs : List Int} (w : World) (h : BS w A n c zs) :
    Calls Try.prog 13 #[.slice A n c] w fun e w' => e = .returned (.bool true) ∧ Below w.heap.size w w' := by
  have H := Lib.hid h
  clear h
  rcases Nat.lt_or_ge 1048576 n with h1 | h1
  · have h1' : (1048576 : Int) < (n : Int) := by omega
    go_enter Try.func13, Try.ntmps13
    go_wp2_with (fail)
    go_ret
    exact ⟨rfl, Below.refl _ _⟩
  have h1' : ¬ (1048576 : Int) < (n : Int) := by omega
  go_enter Try.func13, Try.ntmps13
  go_wp2_with (fail)
  refine (spec_DrawSendNext_any w H.out h1).mono ?_
  rintro e w1 ⟨b, nx, xs, A1, n1, c1, rfl, ⟨hb0, hb1⟩, ⟨hx0, hx1⟩, hn1, hI1, hb⟩
  have B := Lib.hid hb
  have I1 := Lib.hid hI1
  clear hb hI1
  replace I1 := Lib.hid (I1.out.alloc (.cells #[.int .i64 b, .int .i64 nx, .slice A1 n1 c1] 25))
  replace B := Lib.hid (B.out.alloc B.out.size (.cells #[.int .i64 b, .int .i64 nx, .slice A1 n1 c1] 25))
  have Q := Lib.hid (Blk.new w1 25 #[.int .i64 b, .int .i64 nx, .slice A1 n1 c1])
  rcases hk : snOK b nx xs with _ | _
  · skip
    have HK := Lib.hid hk
    clear hk
    go_wp2_with (fail)
    refine (sn_no (impl_SendNext_any b nx _ I1.out) HK.out).mono ?_
    rintro e w2 ⟨A2, n2, c2, rfl, ho, hb⟩
    replace I1 := Lib.hid (I1.out.below hb (Nat.le_refl _))
    replace Q := Lib.hid (Q.out.on hb)
    replace B := Lib.hid (B.out.trans (hb.mono B.out.size))
    have I2 := Lib.hid ho.is
    clear hb
    have Qp := Q
    replace Q := Lib.hid (Q.out.alloc (.cells #[.int .i64 0, .int .i64 0, .slice A2 n2 c2] 25))
    replace I1 := Lib.hid (I1.out.alloc (.cells #[.int .i64 0, .int .i64 0, .slice A2 n2 c2] 25))
    replace I2 := Lib.hid (I2.out.alloc (.cells #[.int .i64 0, .int .i64 0, .slice A2 n2 c2] 25))
    replace B := Lib.hid (B.out.alloc B.out.size (.cells #[.int .i64 0, .int .i64 0, .slice A2 n2 c2] 25))
    have F := Lib.hid (Blk.new w2 25 #[.int .i64 0, .int .i64 0, .slice A2 n2 c2])
    obtain ⟨q0, q1, q2⟩ := Qp.out.c3
    have ql := Qp.out.lt
    go_wp2_with (fail)
    refine (sn_no (spec_SendNext_any b nx _ I1.out) HK.out).mono ?_
    clear q0 q1 q2 ql
    rintro e w3 ⟨A3, n3, c3, rfl, ho, hb⟩
    replace I1 := Lib.hid (I1.out.below hb (Nat.le_refl _))
    replace I2 := Lib.hid (I2.out.below hb (Nat.le_refl _))
    replace Q := Lib.hid (Q.out.on hb)
    replace F := Lib.hid (F.out.on hb)
    replace B := Lib.hid (B.out.trans (hb.mono B.out.size))
    have I3 := Lib.hid ho.is
    clear hb
    replace Qp := Q
    replace Q := Lib.hid (Q.out.alloc (.cells #[.int .i64 0, .int .i64 0, .slice A3 n3 c3] 25))
    have Fp := F
    replace F := Lib.hid (F.out.alloc (.cells #[.int .i64 0, .int .i64 0, .slice A3 n3 c3] 25))
    replace I1 := Lib.hid (I1.out.alloc (.cells #[.int .i64 0, .int .i64 0, .slice A3 n3 c3] 25))
    replace I2 := Lib.hid (I2.out.alloc (.cells #[.int .i64 0, .int .i64 0, .slice A3 n3 c3] 25))
    replace I3 := Lib.hid (I3.out.alloc (.cells #[.int .i64 0, .int .i64 0, .slice A3 n3 c3] 25))
    replace B := Lib.hid (B.out.alloc B.out.size (.cells #[.int .i64 0, .int .i64 0, .slice A3 n3 c3] 25))
    have G := Lib.hid (Blk.new w3 25 #[.int .i64 0, .int .i64 0, .slice A3 n3 c3])
    obtain ⟨f0, f1, f2⟩ := Fp.out.c3
    have fl := Fp.out.lt
    go_wp2_with (fail)
    refine (equalWindow_same 0 0 _ I2.out I3.out).mono ?_
    clear f0 f1 f2 fl
    rintro e w4 ⟨rfl, hb⟩
    replace I1 := Lib.hid (I1.out.below hb (Nat.le_refl _))
    replace I2 := Lib.hid (I2.out.below hb (Nat.le_refl _))
    replace I3 := Lib.hid (I3.out.below hb (Nat.le_refl _))
    replace Q := Lib.hid (Q.out.on hb)
    replace F := Lib.hid (F.out.on hb)
    replace G := Lib.hid (G.out.on hb)
    replace B := Lib.hid (B.out.trans (hb.mono B.out.size))
    clear hb
    obtain ⟨f0, f1, f2⟩ := F.out.c3
    have fl := F.out.lt
    obtain ⟨g0, g1, g2⟩ := G.out.c3
    have gl := G.out.lt
    go_wp2_with (fail)
    refine (equalWindow_same 0 0 _ I2.out I3.out).mono ?_
    clear f0 f1 f2 fl g0 g1 g2 gl
    rintro e w5 ⟨rfl, hb⟩
    replace I1 := Lib.hid (I1.out.below hb (Nat.le_refl _))
    replace I2 := Lib.hid (I2.out.below hb (Nat.le_refl _))
    replace I3 := Lib.hid (I3.out.below hb (Nat.le_refl _))
    replace Q := Lib.hid (Q.out.on hb)
    replace F := Lib.hid (F.out.on hb)
    replace G := Lib.hid (G.out.on hb)
    replace B := Lib.hid (B.out.trans (hb.mono B.out.size))
    clear hb
    go_wp2_with (fail)
    go_ret
    exact ⟨ret_bool (rfl), B.out⟩
  have HK := Lib.hid hk
  have HV : Hid (winV b nx xs = true) := Lib.hid (by have h := hk; simp only [snOK, Bool.and_eq_true] at h; exact h.1)
  have h8 : nx < b + 8 := by have h := hk; simp only [snOK, Bool.and_eq_true, decide_eq_true_eq] at h; exact h.2
  obtain ⟨hv0, hv1, hv2, hv3, _⟩ := winV_facts HV.out
  have hnn : (nx == nx) = true := by simp
  have hnn2 : (nx != nx) = false := by simp
  clear hk
  go_wp2_with (fail)
  refine (sn_yes (impl_SendNext_any b nx _ I1.out) HK.out).mono ?_
  rintro e w2 ⟨A2, n2, c2, rfl, ho, hb⟩
  replace I1 := Lib.hid (I1.out.below hb (Nat.le_refl _))
  replace Q := Lib.hid (Q.out.on hb)
  replace B := Lib.hid (B.out.trans (hb.mono B.out.size))
  have I2 := Lib.hid ho.is
  clear hb
  have Qp := Q
  replace Q := Lib.hid (Q.out.alloc (.cells #[.int .i64 b, .int .i64 (nx + 1), .slice A2 n2 c2] 25))
  replace I1 := Lib.hid (I1.out.alloc (.cells #[.int .i64 b, .int .i64 (nx + 1), .slice A2 n2 c2] 25))
  replace I2 := Lib.hid (I2.out.alloc (.cells #[.int .i64 b, .int .i64 (nx + 1), .slice A2 n2 c2] 25))
  replace B := Lib.hid (B.out.alloc B.out.size (.cells #[.int .i64 b, .int .i64 (nx + 1), .slice A2 n2 c2] 25))
  have F := Lib.hid (Blk.new w2 25 #[.int .i64 b, .int .i64 (nx + 1), .slice A2 n2 c2])
  obtain ⟨q0, q1, q2⟩ := Qp.out.c3
  have ql := Qp.out.lt
  go_wp2_with (fail)
  refine (sn_yes (spec_SendNext_any b nx _ I1.out) HK.out).mono ?_
  clear q0 q1 q2 ql
  rintro e w3 ⟨A3, n3, c3, rfl, ho, hb⟩
  replace I1 := Lib.hid (I1.out.below hb (Nat.le_refl _))
  replace I2 := Lib.hid (I2.out.below hb (Nat.le_refl _))
  replace Q := Lib.hid (Q.out.on hb)
  replace F := Lib.hid (F.out.on hb)
  replace B := Lib.hid (B.out.trans (hb.mono B.out.size))
  have I3 := Lib.hid ho.is
  clear hb
  replace Qp := Q
  replace Q := Lib.hid (Q.out.alloc (.cells #[.int .i64 b, .int .i64 (nx + 1), .slice A3 n3 c3] 25))
  have Fp := F
  replace F := Lib.hid (F.out.alloc (.cells #[.int .i64 b, .int .i64 (nx + 1), .slice A3 n3 c3] 25))
  replace I1 := Lib.hid (I1.out.alloc (.cells #[.int .i64 b, .int .i64 (nx + 1), .slice A3 n3 c3] 25))
  replace I2 := Lib.hid (I2.out.alloc (.cells #[.int .i64 b, .int .i64 (nx + 1), .slice A3 n3 c3] 25))
  replace I3 := Lib.hid (I3.out.alloc (.cells #[.int .i64 b, .int .i64 (nx + 1), .slice A3 n3 c3] 25))
  replace B := Lib.hid (B.out.alloc B.out.size (.cells #[.int .i64 b, .int .i64 (nx + 1), .slice A3 n3 c3] 25))
  have G := Lib.hid (Blk.new w3 25 #[.int .i64 b, .int .i64 (nx + 1), .slice A3 n3 c3])
  obtain ⟨f0, f1, f2⟩ := Fp.out.c3
  have fl := Fp.out.lt
  go_wp2_with (fail)
  refine (equalWindow_same b (nx + 1) _ I2.out I3.out).mono ?_
  clear f0 f1 f2 fl
  rintro e w4 ⟨rfl, hb⟩
  replace I1 := Lib.hid (I1.out.below hb (Nat.le_refl _))
  replace I2 := Lib.hid (I2.out.below hb (Nat.le_refl _))
  replace I3 := Lib.hid (I3.out.below hb (Nat.le_refl _))
  replace Q := Lib.hid (Q.out.on hb)
  replace F := Lib.hid (F.out.on hb)
  replace G := Lib.hid (G.out.on hb)
  replace B := Lib.hid (B.out.trans (hb.mono B.out.size))
  clear hb
  rcases h1 : akOK b (nx + 1) xs nx with _ | _
  · skip
    have Z1 := Lib.hid h1
    clear h1
    obtain ⟨f0, f1, f2⟩ := F.out.c3
    have fl := F.out.lt
    go_wp2_with (fail)
    refine (ak_no (impl_AckBatch_any b (nx + 1) nx _ I2.out) Z1.out).mono ?_
    clear f0 f1 f2 fl
    rintro e w5 ⟨A4, n4, c4, rfl, ho, hb⟩
    replace I1 := Lib.hid (I1.out.below hb (Nat.le_refl _))
    replace I2 := Lib.hid (I2.out.below hb (Nat.le_refl _))
    replace I3 := Lib.hid (I3.out.below hb (Nat.le_refl _))
    replace Q := Lib.hid (Q.out.on hb)
    replace F := Lib.hid (F.out.on hb)
    replace G := Lib.hid (G.out.on hb)
    replace B := Lib.hid (B.out.trans (hb.mono B.out.size))
    have I4 := Lib.hid ho.is
    clear hb
    replace Qp := Q
    replace Q := Lib.hid (Q.out.alloc (.cells #[.int .i64 0, .int .i64 0, .slice A4 n4 c4] 25))
    replace Fp := F
    replace F := Lib.hid (F.out.alloc (.cells #[.int .i64 0, .int .i64 0, .slice A4 n4 c4] 25))
    have Gp := G
    replace G := Lib.hid (G.out.alloc (.cells #[.int .i64 0, .int .i64 0, .slice A4 n4 c4] 25))
    replace I1 := Lib.hid (I1.out.alloc (.cells #[.int .i64 0, .int .i64 0, .slice A4 n4 c4] 25))
    replace I2 := Lib.hid (I2.out.alloc (.cells #[.int .i64 0, .int .i64 0, .slice A4 n4 c4] 25))
    replace I3 := Lib.hid (I3.out.alloc (.cells #[.int .i64 0, .int .i64 0, .slice A4 n4 c4] 25))
    replace I4 := Lib.hid (I4.out.alloc (.cells #[.int .i64 0, .int .i64 0, .slice A4 n4 c4] 25))
    replace B := Lib.hid (B.out.alloc B.out.size (.cells #[.int .i64 0, .int .i64 0, .slice A4 n4 c4] 25))
    have K := Lib.hid (Blk.new w5 25 #[.int .i64 0, .int .i64 0, .slice A4 n4 c4])
    go_wp2_with (fail)
    go_quiet (fail)
    go_wp2_with (fail)
    go_ret
    exact ⟨rfl, below_drewN B.out _⟩
  have Z1 := Lib.hid h1
  have hvv := HV.out
  have ZO := Lib.hid (send_ack_open hvv h8 h1)
  obtain ⟨u1, eu1⟩ : ∃ v, akU b (nx + 1) xs nx = v := ⟨_, rfl⟩
  obtain ⟨ys1, ey1⟩ : ∃ v, akL b (nx + 1) xs nx = v := ⟨_, rfl⟩
  obtain ⟨os, eo⟩ : ∃ v, openL b nx xs = v := ⟨_, rfl⟩
  rw [eu1, ey1, eo] at ZO
  have U1 := Lib.hid eu1
  have Y1 := Lib.hid ey1
  have HO := Lib.hid eo
  clear eu1 ey1 eo hvv h1
  obtain ⟨f0, f1, f2⟩ := F.out.c3
  have fl := F.out.lt
  go_wp2_with (fail)
  refine (ak_yes (impl_AckBatch_any b (nx + 1) nx _ I2.out) Z1.out U1.out Y1.out).mono ?_
  clear f0 f1 f2 fl
  rintro e w5 ⟨A4, n4, c4, rfl, ho, hb⟩
  replace I1 := Lib.hid (I1.out.below hb (Nat.le_refl _))
  replace I2 := Lib.hid (I2.out.below hb (Nat.le_refl _))
  replace I3 := Lib.hid (I3.out.below hb (Nat.le_refl _))
  replace Q := Lib.hid (Q.out.on hb)
  replace F := Lib.hid (F.out.on hb)
  replace G := Lib.hid (G.out.on hb)
  replace B := Lib.hid (B.out.trans (hb.mono B.out.size))
  have I4 := Lib.hid ho.is
  clear hb
  replace Qp := Q
  replace Q := Lib.hid (Q.out.alloc (.cells #[.int .i64 u1, .int .i64 (nx + 1), .slice A4 n4 c4] 25))
  replace Fp := F
  replace F := Lib.hid (F.out.alloc (.cells #[.int .i64 u1, .int .i64 (nx + 1), .slice A4 n4 c4] 25))
  have Gp := G
  replace G := Lib.hid (G.out.alloc (.cells #[.int .i64 u1, .int .i64 (nx + 1), .slice A4 n4 c4] 25))
  replace I1 := Lib.hid (I1.out.alloc (.cells #[.int .i64 u1, .int .i64 (nx + 1), .slice A4 n4 c4] 25))
  replace I2 := Lib.hid (I2.out.alloc (.cells #[.int .i64 u1, .int .i64 (nx + 1), .slice A4 n4 c4] 25))
  replace I3 := Lib.hid (I3.out.alloc (.cells #[.int .i64 u1, .int .i64 (nx + 1), .slice A4 n4 c4] 25))
  replace I4 := Lib.hid (I4.out.alloc (.cells #[.int .i64 u1, .int .i64 (nx + 1), .slice A4 n4 c4] 25))
  replace B := Lib.hid (B.out.alloc B.out.size (.cells #[.int .i64 u1, .int .i64 (nx + 1), .slice A4 n4 c4] 25))
  have K := Lib.hid (Blk.new w5 25 #[.int .i64 u1, .int .i64 (nx + 1), .slice A4 n4 c4])
  go_wp2_with (fail)
  obtain ⟨W0, eW⟩ : ∃ v, v = w5.alloc (.cells #[.int .i64 u1, .int .i64 (nx + 1), .slice A4 n4 c4] 25) := ⟨_, rfl⟩
  rw [← eW] at I1 I2 I3 I4 Q F G K B ⊢
  clear eW
  obtain ⟨k0, k1, k2⟩ := K.out.c3
  obtain ⟨q0, q1, q2⟩ := Q.out.c3
  have kl := K.out.lt
  have ql := Q.out.lt
  go_region_law (first
    | (refine step_is 25 _ _ rfl ?_; go_simp; go_at_call 25; (with_reducible refine (ints_at (impl_OpenBatches_any (A := A4) u1 (nx + 1) _ (by first | exact I4.out | exact I4.out.drew | exact I4.out.below HA.out (Nat.le_refl _) | exact (I4.out.below HA.out (Nat.le_refl _)).drew)) ZO.out).mono ?_); rintro e wa ⟨A6, n6, c6, rfl, ho, hb⟩; have HA : Hid (Below W0.heap.size W0 wa) := Lib.hid (by first | exact hb | exact (Below.refl W0.heap.size W0).drew.trans hb | exact HA.out.trans (hb.mono HA.out.size) | exact HA.out.drew.trans (hb.mono HA.out.size)); (try (have P5 := Lib.hid (P5.out.below hb (Nat.le_refl _)))); (try (have P5 := Lib.hid (P5.out.drew.below hb (Nat.le_refl _)))); have P6 := Lib.hid ho.is; clear ho hb; have ka := (K.out.on HA.out).c3; have qa := (Q.out.on HA.out).c3; obtain ⟨ka0, ka1, ka2⟩ := ka; obtain ⟨qa0, qa1, qa2⟩ := qa)
    | (refine step_is 25 _ _ rfl ?_; go_simp; go_at_call 25; (with_reducible refine (ints_at (impl_OpenBatches_any (A := A1) b nx _ (by first | exact I1.out | exact I1.out.drew | exact I1.out.below HA.out (Nat.le_refl _) | exact (I1.out.below HA.out (Nat.le_refl _)).drew)) HO.out).mono ?_); rintro e wb ⟨A5, n5, c5, rfl, ho, hb⟩; have HA : Hid (Below W0.heap.size W0 wb) := Lib.hid (by first | exact hb | exact (Below.refl W0.heap.size W0).drew.trans hb | exact HA.out.trans (hb.mono HA.out.size) | exact HA.out.drew.trans (hb.mono HA.out.size)); (try (have P6 := Lib.hid (P6.out.below hb (Nat.le_refl _)))); (try (have P6 := Lib.hid (P6.out.drew.below hb (Nat.le_refl _)))); have P5 := Lib.hid ho.is; clear ho hb; have ka := (K.out.on HA.out).c3; have qa := (Q.out.on HA.out).c3; obtain ⟨kb0, kb1, kb2⟩ := ka; obtain ⟨qb0, qb1, qb2⟩ := qa)
    | (refine step_is 26 _ _ rfl ?_; go_simp; go_at_call 26; go_must (refine (equalInts_same _ (by first | exact P6.out | exact P6.out.drew) (by first | exact P5.out | exact P5.out.drew)).mono ?_; rintro e wc ⟨rfl, hb⟩; have HC : Hid (Below W0.heap.size W0 wc) := Lib.hid (by first | exact hb | exact (Below.refl W0.heap.size W0).drew.trans hb | exact HA.out.trans (hb.mono HA.out.size) | exact HA.out.drew.trans (hb.mono HA.out.size)); clear hb)))
  all_goals (
    go_wp2_with (fail)
    go_ret
    exact ⟨rfl, B.out.trans (HC.out.mono B.out.size)⟩)
end Go.Proofs.Ytgfjmacnlgmbfaa
