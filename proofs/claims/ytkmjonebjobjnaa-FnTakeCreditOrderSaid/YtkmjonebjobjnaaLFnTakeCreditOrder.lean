/-
  The walk of FnTakeCreditOrder. (Its words were written by a program of my own.)
-/
import Derived.Test.YtkmjonebjobjnaaDrawT
import Derived.Test.YtkmjonebjobjnaaBudY
import Derived.Lib.QuietBelow
import Derived.Deep.DeepMust
namespace Go.Proofs.Ytkmjonebjobjnaa
open Go.RowKit
attribute [local go_sem ↓] Go.wp_at_zero Go.wp_at_succ
-- CALL: W s0
set_option maxHeartbeats 4000000 in
theorem walk_FnTakeCreditOrder {A : Option Addr} {n c : Nat} {zs : List Int} (w : World) (h : BS w A n c zs) :
    Calls Try.prog 12 #[.slice A n c] w fun e w' => e = .returned (.bool true) ∧ Below w.heap.size w w' := by
  have H := Lib.hid h
  clear h
  rcases Nat.lt_or_ge 1048576 n with h1 | h1
  · have h1' : (1048576 : Int) < (n : Int) := by omega
    go_enter Try.func12, Try.ntmps12
    go_wp2_with (fail)
    go_ret
    exact ⟨rfl, Below.refl _ _⟩
  have h1' : ¬ (1048576 : Int) < (n : Int) := by omega
  go_enter Try.func12, Try.ntmps12
  go_wp2_with (fail)
  refine (spec_DrawTakeCredit_any w H.out h1).mono ?_
  rintro e w1 ⟨t, ks, us, A1, n1, c1, A2, n2, c2, cl, s, rfl, hn1, hn2, hcl0, hcl1, hs0, hs1, hI1, hI2, hb⟩
  have B := Lib.hid hb
  have I1 := Lib.hid hI1
  have I2 := Lib.hid hI2
  clear hb hI1 hI2
  replace I1 := Lib.hid (I1.out.alloc (.cells #[.int .i64 t, .slice A1 n1 c1, .slice A2 n2 c2] 25))
  replace I2 := Lib.hid (I2.out.alloc (.cells #[.int .i64 t, .slice A1 n1 c1, .slice A2 n2 c2] 25))
  replace B := Lib.hid (B.out.alloc B.out.size (.cells #[.int .i64 t, .slice A1 n1 c1, .slice A2 n2 c2] 25))
  have Q := Lib.hid (Blk.new w1 25 #[.int .i64 t, .slice A1 n1 c1, .slice A2 n2 c2])
  rcases hok : tcOK t ks us cl s with _ | _
  · skip
    go_wp2_with (fail)
    refine (impl_TakeCredit_no t cl s _ I1.out I2.out hok).mono ?_
    rintro e w2 ⟨A3, n3, c3, A4, n4, c4, rfl, ho3, ho4, hd, hb⟩
    replace I1 := Lib.hid (I1.out.below hb (Nat.le_refl _))
    replace I2 := Lib.hid (I2.out.below hb (Nat.le_refl _))
    replace Q := Lib.hid (Q.out.on hb)
    replace B := Lib.hid (B.out.trans (hb.mono B.out.size))
    have I3 := Lib.hid ho3.is
    have I4 := Lib.hid ho4.is
    clear hb
    have Qp := Q
    replace Q := Lib.hid (Q.out.alloc (.cells #[.int .i64 0, .slice A3 n3 c3, .slice A4 n4 c4] 25))
    replace I1 := Lib.hid (I1.out.alloc (.cells #[.int .i64 0, .slice A3 n3 c3, .slice A4 n4 c4] 25))
    replace I2 := Lib.hid (I2.out.alloc (.cells #[.int .i64 0, .slice A3 n3 c3, .slice A4 n4 c4] 25))
    replace I3 := Lib.hid (I3.out.alloc (.cells #[.int .i64 0, .slice A3 n3 c3, .slice A4 n4 c4] 25))
    replace I4 := Lib.hid (I4.out.alloc (.cells #[.int .i64 0, .slice A3 n3 c3, .slice A4 n4 c4] 25))
    replace B := Lib.hid (B.out.alloc B.out.size (.cells #[.int .i64 0, .slice A3 n3 c3, .slice A4 n4 c4] 25))
    have F := Lib.hid (Blk.new w2 25 #[.int .i64 0, .slice A3 n3 c3, .slice A4 n4 c4])
    obtain ⟨q0, q1, q2⟩ := Qp.out.c3
    have ql := Qp.out.lt
    go_wp2_with (fail)
    refine (spec_TakeCredit_no t cl s _ I1.out I2.out hok).mono ?_
    clear q0 q1 q2 ql
    rintro e w3 ⟨A5, n5, c5, A6, n6, c6, rfl, ho5, ho6, hd, hb⟩
    replace I1 := Lib.hid (I1.out.below hb (Nat.le_refl _))
    replace I2 := Lib.hid (I2.out.below hb (Nat.le_refl _))
    replace I3 := Lib.hid (I3.out.below hb (Nat.le_refl _))
    replace I4 := Lib.hid (I4.out.below hb (Nat.le_refl _))
    replace Q := Lib.hid (Q.out.on hb)
    replace F := Lib.hid (F.out.on hb)
    replace B := Lib.hid (B.out.trans (hb.mono B.out.size))
    have I5 := Lib.hid ho5.is
    have I6 := Lib.hid ho6.is
    clear hb
    replace Qp := Q
    replace Q := Lib.hid (Q.out.alloc (.cells #[.int .i64 0, .slice A5 n5 c5, .slice A6 n6 c6] 25))
    have Fp := F
    replace F := Lib.hid (F.out.alloc (.cells #[.int .i64 0, .slice A5 n5 c5, .slice A6 n6 c6] 25))
    replace I1 := Lib.hid (I1.out.alloc (.cells #[.int .i64 0, .slice A5 n5 c5, .slice A6 n6 c6] 25))
    replace I2 := Lib.hid (I2.out.alloc (.cells #[.int .i64 0, .slice A5 n5 c5, .slice A6 n6 c6] 25))
    replace I3 := Lib.hid (I3.out.alloc (.cells #[.int .i64 0, .slice A5 n5 c5, .slice A6 n6 c6] 25))
    replace I4 := Lib.hid (I4.out.alloc (.cells #[.int .i64 0, .slice A5 n5 c5, .slice A6 n6 c6] 25))
    replace I5 := Lib.hid (I5.out.alloc (.cells #[.int .i64 0, .slice A5 n5 c5, .slice A6 n6 c6] 25))
    replace I6 := Lib.hid (I6.out.alloc (.cells #[.int .i64 0, .slice A5 n5 c5, .slice A6 n6 c6] 25))
    replace B := Lib.hid (B.out.alloc B.out.size (.cells #[.int .i64 0, .slice A5 n5 c5, .slice A6 n6 c6] 25))
    have G := Lib.hid (Blk.new w3 25 #[.int .i64 0, .slice A5 n5 c5, .slice A6 n6 c6])
    obtain ⟨f0, f1, f2⟩ := Fp.out.c3
    have fl := Fp.out.lt
    go_wp2_with (fail)
    refine (laws_equalBudget_same 0 _ I3.out I4.out I5.out I6.out).mono ?_
    clear f0 f1 f2 fl
    rintro e w4 ⟨rfl, hb⟩
    replace I1 := Lib.hid (I1.out.below hb (Nat.le_refl _))
    replace I2 := Lib.hid (I2.out.below hb (Nat.le_refl _))
    replace I3 := Lib.hid (I3.out.below hb (Nat.le_refl _))
    replace I4 := Lib.hid (I4.out.below hb (Nat.le_refl _))
    replace I5 := Lib.hid (I5.out.below hb (Nat.le_refl _))
    replace I6 := Lib.hid (I6.out.below hb (Nat.le_refl _))
    replace Q := Lib.hid (Q.out.on hb)
    replace F := Lib.hid (F.out.on hb)
    replace G := Lib.hid (G.out.on hb)
    replace B := Lib.hid (B.out.trans (hb.mono B.out.size))
    clear hb
    obtain ⟨f0, f1, f2⟩ := F.out.c3
    have fl := F.out.lt
    obtain ⟨g0, g1, g2⟩ := G.out.c3
    have gl := G.out.lt
    go_wp2_with (fail)
    refine (laws_equalBudget_same 0 _ I3.out I4.out I5.out I6.out).mono ?_
    clear f0 f1 f2 fl g0 g1 g2 gl
    rintro e w5 ⟨rfl, hb⟩
    replace I1 := Lib.hid (I1.out.below hb (Nat.le_refl _))
    replace I2 := Lib.hid (I2.out.below hb (Nat.le_refl _))
    replace I3 := Lib.hid (I3.out.below hb (Nat.le_refl _))
    replace I4 := Lib.hid (I4.out.below hb (Nat.le_refl _))
    replace I5 := Lib.hid (I5.out.below hb (Nat.le_refl _))
    replace I6 := Lib.hid (I6.out.below hb (Nat.le_refl _))
    replace Q := Lib.hid (Q.out.on hb)
    replace F := Lib.hid (F.out.on hb)
    replace G := Lib.hid (G.out.on hb)
    replace B := Lib.hid (B.out.trans (hb.mono B.out.size))
    clear hb
    go_wp2_with (fail)
    go_ret
    exact ⟨ret_bool (by first | rfl | (simp; done) | (simp; omega) | omega), B.out⟩
  go_wp2_with (fail)
  refine (impl_TakeCredit_yes t cl s _ I1.out I2.out hok).mono ?_
  rintro e w2 ⟨A3, n3, c3, A4, n4, c4, rfl, ho3, ho4, hd, hb⟩
  replace I1 := Lib.hid (I1.out.below hb (Nat.le_refl _))
  replace I2 := Lib.hid (I2.out.below hb (Nat.le_refl _))
  replace Q := Lib.hid (Q.out.on hb)
  replace B := Lib.hid (B.out.trans (hb.mono B.out.size))
  have I3 := Lib.hid ho3.is
  have I4 := Lib.hid ho4.is
  clear hb
  have Qp := Q
  replace Q := Lib.hid (Q.out.alloc (.cells #[.int .i64 t, .slice A3 n3 c3, .slice A4 n4 c4] 25))
  replace I1 := Lib.hid (I1.out.alloc (.cells #[.int .i64 t, .slice A3 n3 c3, .slice A4 n4 c4] 25))
  replace I2 := Lib.hid (I2.out.alloc (.cells #[.int .i64 t, .slice A3 n3 c3, .slice A4 n4 c4] 25))
  replace I3 := Lib.hid (I3.out.alloc (.cells #[.int .i64 t, .slice A3 n3 c3, .slice A4 n4 c4] 25))
  replace I4 := Lib.hid (I4.out.alloc (.cells #[.int .i64 t, .slice A3 n3 c3, .slice A4 n4 c4] 25))
  replace B := Lib.hid (B.out.alloc B.out.size (.cells #[.int .i64 t, .slice A3 n3 c3, .slice A4 n4 c4] 25))
  have F := Lib.hid (Blk.new w2 25 #[.int .i64 t, .slice A3 n3 c3, .slice A4 n4 c4])
  obtain ⟨q0, q1, q2⟩ := Qp.out.c3
  have ql := Qp.out.lt
  go_wp2_with (fail)
  refine (spec_TakeCredit_yes t cl s _ I1.out I2.out hok).mono ?_
  clear q0 q1 q2 ql
  rintro e w3 ⟨A5, n5, c5, A6, n6, c6, rfl, ho5, ho6, hd, hb⟩
  replace I1 := Lib.hid (I1.out.below hb (Nat.le_refl _))
  replace I2 := Lib.hid (I2.out.below hb (Nat.le_refl _))
  replace I3 := Lib.hid (I3.out.below hb (Nat.le_refl _))
  replace I4 := Lib.hid (I4.out.below hb (Nat.le_refl _))
  replace Q := Lib.hid (Q.out.on hb)
  replace F := Lib.hid (F.out.on hb)
  replace B := Lib.hid (B.out.trans (hb.mono B.out.size))
  have I5 := Lib.hid ho5.is
  have I6 := Lib.hid ho6.is
  clear hb
  replace Qp := Q
  replace Q := Lib.hid (Q.out.alloc (.cells #[.int .i64 t, .slice A5 n5 c5, .slice A6 n6 c6] 25))
  have Fp := F
  replace F := Lib.hid (F.out.alloc (.cells #[.int .i64 t, .slice A5 n5 c5, .slice A6 n6 c6] 25))
  replace I1 := Lib.hid (I1.out.alloc (.cells #[.int .i64 t, .slice A5 n5 c5, .slice A6 n6 c6] 25))
  replace I2 := Lib.hid (I2.out.alloc (.cells #[.int .i64 t, .slice A5 n5 c5, .slice A6 n6 c6] 25))
  replace I3 := Lib.hid (I3.out.alloc (.cells #[.int .i64 t, .slice A5 n5 c5, .slice A6 n6 c6] 25))
  replace I4 := Lib.hid (I4.out.alloc (.cells #[.int .i64 t, .slice A5 n5 c5, .slice A6 n6 c6] 25))
  replace I5 := Lib.hid (I5.out.alloc (.cells #[.int .i64 t, .slice A5 n5 c5, .slice A6 n6 c6] 25))
  replace I6 := Lib.hid (I6.out.alloc (.cells #[.int .i64 t, .slice A5 n5 c5, .slice A6 n6 c6] 25))
  replace B := Lib.hid (B.out.alloc B.out.size (.cells #[.int .i64 t, .slice A5 n5 c5, .slice A6 n6 c6] 25))
  have G := Lib.hid (Blk.new w3 25 #[.int .i64 t, .slice A5 n5 c5, .slice A6 n6 c6])
  obtain ⟨f0, f1, f2⟩ := Fp.out.c3
  have fl := Fp.out.lt
  go_wp2_with (fail)
  refine (laws_equalBudget_same t _ I3.out I4.out I5.out I6.out).mono ?_
  clear f0 f1 f2 fl
  rintro e w4 ⟨rfl, hb⟩
  replace I1 := Lib.hid (I1.out.below hb (Nat.le_refl _))
  replace I2 := Lib.hid (I2.out.below hb (Nat.le_refl _))
  replace I3 := Lib.hid (I3.out.below hb (Nat.le_refl _))
  replace I4 := Lib.hid (I4.out.below hb (Nat.le_refl _))
  replace I5 := Lib.hid (I5.out.below hb (Nat.le_refl _))
  replace I6 := Lib.hid (I6.out.below hb (Nat.le_refl _))
  replace Q := Lib.hid (Q.out.on hb)
  replace F := Lib.hid (F.out.on hb)
  replace G := Lib.hid (G.out.on hb)
  replace B := Lib.hid (B.out.trans (hb.mono B.out.size))
  clear hb
  obtain ⟨hv, hc, hs0', hs1', _⟩ := tc_parts hok
  obtain ⟨hc0, hc1⟩ := inR_iff.1 hc
  obtain ⟨o1, o2, o3⟩ := tc_order hok
  have O3 := Lib.hid o3
  obtain ⟨o, ho⟩ : ∃ o, (cl + 1) % 3 = o := ⟨_, rfl⟩
  have hcm : (cl + 1) % 3 = o := ho
  rw [ho] at o1 o2 O3
  clear ho o3 hok hv hc
  rcases k2 : tcOK t ks us o 3 with _ | _
  · skip
    have k1 := o1 k2
    have k3 : tcOK 0 [] [] cl s = false := by simp [tcOK, validB, cnt]
    have K1 := Lib.hid k1
    have K2 := Lib.hid k2
    have K3 := Lib.hid k3
    clear o1 o2 k1 k2 k3
    obtain ⟨f0, f1, f2⟩ := F.out.c3
    have fl := F.out.lt
    go_wp2_with (fail)
    refine (impl_TakeCredit_no t o 3 _ I3.out I4.out K1.out).mono ?_
    clear f0 f1 f2 fl
    rintro e w5 ⟨A7, n7, c7, A8, n8, c8, rfl, ho7, ho8, hd, hb⟩
    replace I1 := Lib.hid (I1.out.below hb (Nat.le_refl _))
    replace I2 := Lib.hid (I2.out.below hb (Nat.le_refl _))
    replace I3 := Lib.hid (I3.out.below hb (Nat.le_refl _))
    replace I4 := Lib.hid (I4.out.below hb (Nat.le_refl _))
    replace I5 := Lib.hid (I5.out.below hb (Nat.le_refl _))
    replace I6 := Lib.hid (I6.out.below hb (Nat.le_refl _))
    replace Q := Lib.hid (Q.out.on hb)
    replace F := Lib.hid (F.out.on hb)
    replace G := Lib.hid (G.out.on hb)
    replace B := Lib.hid (B.out.trans (hb.mono B.out.size))
    have I7 := Lib.hid ho7.is
    have I8 := Lib.hid ho8.is
    clear hb
    replace Qp := Q
    replace Q := Lib.hid (Q.out.alloc (.cells #[.int .i64 0, .slice A7 n7 c7, .slice A8 n8 c8] 25))
    replace Fp := F
    replace F := Lib.hid (F.out.alloc (.cells #[.int .i64 0, .slice A7 n7 c7, .slice A8 n8 c8] 25))
    have Gp := G
    replace G := Lib.hid (G.out.alloc (.cells #[.int .i64 0, .slice A7 n7 c7, .slice A8 n8 c8] 25))
    replace I1 := Lib.hid (I1.out.alloc (.cells #[.int .i64 0, .slice A7 n7 c7, .slice A8 n8 c8] 25))
    replace I2 := Lib.hid (I2.out.alloc (.cells #[.int .i64 0, .slice A7 n7 c7, .slice A8 n8 c8] 25))
    replace I3 := Lib.hid (I3.out.alloc (.cells #[.int .i64 0, .slice A7 n7 c7, .slice A8 n8 c8] 25))
    replace I4 := Lib.hid (I4.out.alloc (.cells #[.int .i64 0, .slice A7 n7 c7, .slice A8 n8 c8] 25))
    replace I5 := Lib.hid (I5.out.alloc (.cells #[.int .i64 0, .slice A7 n7 c7, .slice A8 n8 c8] 25))
    replace I6 := Lib.hid (I6.out.alloc (.cells #[.int .i64 0, .slice A7 n7 c7, .slice A8 n8 c8] 25))
    replace I7 := Lib.hid (I7.out.alloc (.cells #[.int .i64 0, .slice A7 n7 c7, .slice A8 n8 c8] 25))
    replace I8 := Lib.hid (I8.out.alloc (.cells #[.int .i64 0, .slice A7 n7 c7, .slice A8 n8 c8] 25))
    replace B := Lib.hid (B.out.alloc B.out.size (.cells #[.int .i64 0, .slice A7 n7 c7, .slice A8 n8 c8] 25))
    have M := Lib.hid (Blk.new w5 25 #[.int .i64 0, .slice A7 n7 c7, .slice A8 n8 c8])
    obtain ⟨q0, q1, q2⟩ := Qp.out.c3
    have ql := Qp.out.lt
    go_wp2_with (fail)
    refine (impl_TakeCredit_no t o 3 _ I1.out I2.out K2.out).mono ?_
    clear q0 q1 q2 ql
    rintro e w6 ⟨A9, n9, c9, A10, n10, c10, rfl, ho9, ho10, hd, hb⟩
    replace I1 := Lib.hid (I1.out.below hb (Nat.le_refl _))
    replace I2 := Lib.hid (I2.out.below hb (Nat.le_refl _))
    replace I3 := Lib.hid (I3.out.below hb (Nat.le_refl _))
    replace I4 := Lib.hid (I4.out.below hb (Nat.le_refl _))
    replace I5 := Lib.hid (I5.out.below hb (Nat.le_refl _))
    replace I6 := Lib.hid (I6.out.below hb (Nat.le_refl _))
    replace I7 := Lib.hid (I7.out.below hb (Nat.le_refl _))
    replace I8 := Lib.hid (I8.out.below hb (Nat.le_refl _))
    replace Q := Lib.hid (Q.out.on hb)
    replace F := Lib.hid (F.out.on hb)
    replace G := Lib.hid (G.out.on hb)
    replace M := Lib.hid (M.out.on hb)
    replace B := Lib.hid (B.out.trans (hb.mono B.out.size))
    have I9 := Lib.hid ho9.is
    have I10 := Lib.hid ho10.is
    clear hb
    replace Qp := Q
    replace Q := Lib.hid (Q.out.alloc (.cells #[.int .i64 0, .slice A9 n9 c9, .slice A10 n10 c10] 25))
    replace Fp := F
    replace F := Lib.hid (F.out.alloc (.cells #[.int .i64 0, .slice A9 n9 c9, .slice A10 n10 c10] 25))
    replace Gp := G
    replace G := Lib.hid (G.out.alloc (.cells #[.int .i64 0, .slice A9 n9 c9, .slice A10 n10 c10] 25))
    have Mp := M
    replace M := Lib.hid (M.out.alloc (.cells #[.int .i64 0, .slice A9 n9 c9, .slice A10 n10 c10] 25))
    replace I1 := Lib.hid (I1.out.alloc (.cells #[.int .i64 0, .slice A9 n9 c9, .slice A10 n10 c10] 25))
    replace I2 := Lib.hid (I2.out.alloc (.cells #[.int .i64 0, .slice A9 n9 c9, .slice A10 n10 c10] 25))
    replace I3 := Lib.hid (I3.out.alloc (.cells #[.int .i64 0, .slice A9 n9 c9, .slice A10 n10 c10] 25))
    replace I4 := Lib.hid (I4.out.alloc (.cells #[.int .i64 0, .slice A9 n9 c9, .slice A10 n10 c10] 25))
    replace I5 := Lib.hid (I5.out.alloc (.cells #[.int .i64 0, .slice A9 n9 c9, .slice A10 n10 c10] 25))
    replace I6 := Lib.hid (I6.out.alloc (.cells #[.int .i64 0, .slice A9 n9 c9, .slice A10 n10 c10] 25))
    replace I7 := Lib.hid (I7.out.alloc (.cells #[.int .i64 0, .slice A9 n9 c9, .slice A10 n10 c10] 25))
    replace I8 := Lib.hid (I8.out.alloc (.cells #[.int .i64 0, .slice A9 n9 c9, .slice A10 n10 c10] 25))
    replace I9 := Lib.hid (I9.out.alloc (.cells #[.int .i64 0, .slice A9 n9 c9, .slice A10 n10 c10] 25))
    replace I10 := Lib.hid (I10.out.alloc (.cells #[.int .i64 0, .slice A9 n9 c9, .slice A10 n10 c10] 25))
    replace B := Lib.hid (B.out.alloc B.out.size (.cells #[.int .i64 0, .slice A9 n9 c9, .slice A10 n10 c10] 25))
    have P := Lib.hid (Blk.new w6 25 #[.int .i64 0, .slice A9 n9 c9, .slice A10 n10 c10])
    go_wp2_with (fail)
    refine (impl_TakeCredit_no 0 cl s _ I9.out I10.out K3.out).mono ?_
    rintro e w7 ⟨A11, n11, c11, A12, n12, c12, rfl, ho11, ho12, hd, hb⟩
    replace I1 := Lib.hid (I1.out.below hb (Nat.le_refl _))
    replace I2 := Lib.hid (I2.out.below hb (Nat.le_refl _))
    replace I3 := Lib.hid (I3.out.below hb (Nat.le_refl _))
    replace I4 := Lib.hid (I4.out.below hb (Nat.le_refl _))
    replace I5 := Lib.hid (I5.out.below hb (Nat.le_refl _))
    replace I6 := Lib.hid (I6.out.below hb (Nat.le_refl _))
    replace I7 := Lib.hid (I7.out.below hb (Nat.le_refl _))
    replace I8 := Lib.hid (I8.out.below hb (Nat.le_refl _))
    replace I9 := Lib.hid (I9.out.below hb (Nat.le_refl _))
    replace I10 := Lib.hid (I10.out.below hb (Nat.le_refl _))
    replace Q := Lib.hid (Q.out.on hb)
    replace F := Lib.hid (F.out.on hb)
    replace G := Lib.hid (G.out.on hb)
    replace M := Lib.hid (M.out.on hb)
    replace P := Lib.hid (P.out.on hb)
    replace B := Lib.hid (B.out.trans (hb.mono B.out.size))
    have I11 := Lib.hid ho11.is
    have I12 := Lib.hid ho12.is
    clear hb
    replace Qp := Q
    replace Q := Lib.hid (Q.out.alloc (.cells #[.int .i64 0, .slice A11 n11 c11, .slice A12 n12 c12] 25))
    replace Fp := F
    replace F := Lib.hid (F.out.alloc (.cells #[.int .i64 0, .slice A11 n11 c11, .slice A12 n12 c12] 25))
    replace Gp := G
    replace G := Lib.hid (G.out.alloc (.cells #[.int .i64 0, .slice A11 n11 c11, .slice A12 n12 c12] 25))
    replace Mp := M
    replace M := Lib.hid (M.out.alloc (.cells #[.int .i64 0, .slice A11 n11 c11, .slice A12 n12 c12] 25))
    have Pp := P
    replace P := Lib.hid (P.out.alloc (.cells #[.int .i64 0, .slice A11 n11 c11, .slice A12 n12 c12] 25))
    replace I1 := Lib.hid (I1.out.alloc (.cells #[.int .i64 0, .slice A11 n11 c11, .slice A12 n12 c12] 25))
    replace I2 := Lib.hid (I2.out.alloc (.cells #[.int .i64 0, .slice A11 n11 c11, .slice A12 n12 c12] 25))
    replace I3 := Lib.hid (I3.out.alloc (.cells #[.int .i64 0, .slice A11 n11 c11, .slice A12 n12 c12] 25))
    replace I4 := Lib.hid (I4.out.alloc (.cells #[.int .i64 0, .slice A11 n11 c11, .slice A12 n12 c12] 25))
    replace I5 := Lib.hid (I5.out.alloc (.cells #[.int .i64 0, .slice A11 n11 c11, .slice A12 n12 c12] 25))
    replace I6 := Lib.hid (I6.out.alloc (.cells #[.int .i64 0, .slice A11 n11 c11, .slice A12 n12 c12] 25))
    replace I7 := Lib.hid (I7.out.alloc (.cells #[.int .i64 0, .slice A11 n11 c11, .slice A12 n12 c12] 25))
    replace I8 := Lib.hid (I8.out.alloc (.cells #[.int .i64 0, .slice A11 n11 c11, .slice A12 n12 c12] 25))
    replace I9 := Lib.hid (I9.out.alloc (.cells #[.int .i64 0, .slice A11 n11 c11, .slice A12 n12 c12] 25))
    replace I10 := Lib.hid (I10.out.alloc (.cells #[.int .i64 0, .slice A11 n11 c11, .slice A12 n12 c12] 25))
    replace I11 := Lib.hid (I11.out.alloc (.cells #[.int .i64 0, .slice A11 n11 c11, .slice A12 n12 c12] 25))
    replace I12 := Lib.hid (I12.out.alloc (.cells #[.int .i64 0, .slice A11 n11 c11, .slice A12 n12 c12] 25))
    replace B := Lib.hid (B.out.alloc B.out.size (.cells #[.int .i64 0, .slice A11 n11 c11, .slice A12 n12 c12] 25))
    have R := Lib.hid (Blk.new w7 25 #[.int .i64 0, .slice A11 n11 c11, .slice A12 n12 c12])
    go_wp2_with (fail)
    go_ret
    exact ⟨ret_bool (by first | rfl | (simp; done) | (simp; omega) | omega), B.out⟩
  have o4 := o2 k2
  have K2 := Lib.hid k2
  rcases k3 : tcOK t ks (addL us o 3) cl s with _ | _
  · skip
    rw [k3] at o4
    have K1 := Lib.hid o4
    have K3 := Lib.hid k3
    clear o1 o2 o4 k2 k3
    obtain ⟨f0, f1, f2⟩ := F.out.c3
    have fl := F.out.lt
    go_wp2_with (fail)
    refine (impl_TakeCredit_no t o 3 _ I3.out I4.out K1.out).mono ?_
    clear f0 f1 f2 fl
    rintro e w5 ⟨A7, n7, c7, A8, n8, c8, rfl, ho7, ho8, hd, hb⟩
    replace I1 := Lib.hid (I1.out.below hb (Nat.le_refl _))
    replace I2 := Lib.hid (I2.out.below hb (Nat.le_refl _))
    replace I3 := Lib.hid (I3.out.below hb (Nat.le_refl _))
    replace I4 := Lib.hid (I4.out.below hb (Nat.le_refl _))
    replace I5 := Lib.hid (I5.out.below hb (Nat.le_refl _))
    replace I6 := Lib.hid (I6.out.below hb (Nat.le_refl _))
    replace Q := Lib.hid (Q.out.on hb)
    replace F := Lib.hid (F.out.on hb)
    replace G := Lib.hid (G.out.on hb)
    replace B := Lib.hid (B.out.trans (hb.mono B.out.size))
    have I7 := Lib.hid ho7.is
    have I8 := Lib.hid ho8.is
    clear hb
    replace Qp := Q
    replace Q := Lib.hid (Q.out.alloc (.cells #[.int .i64 0, .slice A7 n7 c7, .slice A8 n8 c8] 25))
    replace Fp := F
    replace F := Lib.hid (F.out.alloc (.cells #[.int .i64 0, .slice A7 n7 c7, .slice A8 n8 c8] 25))
    have Gp := G
    replace G := Lib.hid (G.out.alloc (.cells #[.int .i64 0, .slice A7 n7 c7, .slice A8 n8 c8] 25))
    replace I1 := Lib.hid (I1.out.alloc (.cells #[.int .i64 0, .slice A7 n7 c7, .slice A8 n8 c8] 25))
    replace I2 := Lib.hid (I2.out.alloc (.cells #[.int .i64 0, .slice A7 n7 c7, .slice A8 n8 c8] 25))
    replace I3 := Lib.hid (I3.out.alloc (.cells #[.int .i64 0, .slice A7 n7 c7, .slice A8 n8 c8] 25))
    replace I4 := Lib.hid (I4.out.alloc (.cells #[.int .i64 0, .slice A7 n7 c7, .slice A8 n8 c8] 25))
    replace I5 := Lib.hid (I5.out.alloc (.cells #[.int .i64 0, .slice A7 n7 c7, .slice A8 n8 c8] 25))
    replace I6 := Lib.hid (I6.out.alloc (.cells #[.int .i64 0, .slice A7 n7 c7, .slice A8 n8 c8] 25))
    replace I7 := Lib.hid (I7.out.alloc (.cells #[.int .i64 0, .slice A7 n7 c7, .slice A8 n8 c8] 25))
    replace I8 := Lib.hid (I8.out.alloc (.cells #[.int .i64 0, .slice A7 n7 c7, .slice A8 n8 c8] 25))
    replace B := Lib.hid (B.out.alloc B.out.size (.cells #[.int .i64 0, .slice A7 n7 c7, .slice A8 n8 c8] 25))
    have M := Lib.hid (Blk.new w5 25 #[.int .i64 0, .slice A7 n7 c7, .slice A8 n8 c8])
    obtain ⟨q0, q1, q2⟩ := Qp.out.c3
    have ql := Qp.out.lt
    go_wp2_with (fail)
    refine (impl_TakeCredit_yes t o 3 _ I1.out I2.out K2.out).mono ?_
    clear q0 q1 q2 ql
    rintro e w6 ⟨A9, n9, c9, A10, n10, c10, rfl, ho9, ho10, hd, hb⟩
    replace I1 := Lib.hid (I1.out.below hb (Nat.le_refl _))
    replace I2 := Lib.hid (I2.out.below hb (Nat.le_refl _))
    replace I3 := Lib.hid (I3.out.below hb (Nat.le_refl _))
    replace I4 := Lib.hid (I4.out.below hb (Nat.le_refl _))
    replace I5 := Lib.hid (I5.out.below hb (Nat.le_refl _))
    replace I6 := Lib.hid (I6.out.below hb (Nat.le_refl _))
    replace I7 := Lib.hid (I7.out.below hb (Nat.le_refl _))
    replace I8 := Lib.hid (I8.out.below hb (Nat.le_refl _))
    replace Q := Lib.hid (Q.out.on hb)
    replace F := Lib.hid (F.out.on hb)
    replace G := Lib.hid (G.out.on hb)
    replace M := Lib.hid (M.out.on hb)
    replace B := Lib.hid (B.out.trans (hb.mono B.out.size))
    have I9 := Lib.hid ho9.is
    have I10 := Lib.hid ho10.is
    clear hb
    replace Qp := Q
    replace Q := Lib.hid (Q.out.alloc (.cells #[.int .i64 t, .slice A9 n9 c9, .slice A10 n10 c10] 25))
    replace Fp := F
    replace F := Lib.hid (F.out.alloc (.cells #[.int .i64 t, .slice A9 n9 c9, .slice A10 n10 c10] 25))
    replace Gp := G
    replace G := Lib.hid (G.out.alloc (.cells #[.int .i64 t, .slice A9 n9 c9, .slice A10 n10 c10] 25))
    have Mp := M
    replace M := Lib.hid (M.out.alloc (.cells #[.int .i64 t, .slice A9 n9 c9, .slice A10 n10 c10] 25))
    replace I1 := Lib.hid (I1.out.alloc (.cells #[.int .i64 t, .slice A9 n9 c9, .slice A10 n10 c10] 25))
    replace I2 := Lib.hid (I2.out.alloc (.cells #[.int .i64 t, .slice A9 n9 c9, .slice A10 n10 c10] 25))
    replace I3 := Lib.hid (I3.out.alloc (.cells #[.int .i64 t, .slice A9 n9 c9, .slice A10 n10 c10] 25))
    replace I4 := Lib.hid (I4.out.alloc (.cells #[.int .i64 t, .slice A9 n9 c9, .slice A10 n10 c10] 25))
    replace I5 := Lib.hid (I5.out.alloc (.cells #[.int .i64 t, .slice A9 n9 c9, .slice A10 n10 c10] 25))
    replace I6 := Lib.hid (I6.out.alloc (.cells #[.int .i64 t, .slice A9 n9 c9, .slice A10 n10 c10] 25))
    replace I7 := Lib.hid (I7.out.alloc (.cells #[.int .i64 t, .slice A9 n9 c9, .slice A10 n10 c10] 25))
    replace I8 := Lib.hid (I8.out.alloc (.cells #[.int .i64 t, .slice A9 n9 c9, .slice A10 n10 c10] 25))
    replace I9 := Lib.hid (I9.out.alloc (.cells #[.int .i64 t, .slice A9 n9 c9, .slice A10 n10 c10] 25))
    replace I10 := Lib.hid (I10.out.alloc (.cells #[.int .i64 t, .slice A9 n9 c9, .slice A10 n10 c10] 25))
    replace B := Lib.hid (B.out.alloc B.out.size (.cells #[.int .i64 t, .slice A9 n9 c9, .slice A10 n10 c10] 25))
    have P := Lib.hid (Blk.new w6 25 #[.int .i64 t, .slice A9 n9 c9, .slice A10 n10 c10])
    go_wp2_with (fail)
    refine (impl_TakeCredit_no t cl s _ I9.out I10.out K3.out).mono ?_
    rintro e w7 ⟨A11, n11, c11, A12, n12, c12, rfl, ho11, ho12, hd, hb⟩
    replace I1 := Lib.hid (I1.out.below hb (Nat.le_refl _))
    replace I2 := Lib.hid (I2.out.below hb (Nat.le_refl _))
    replace I3 := Lib.hid (I3.out.below hb (Nat.le_refl _))
    replace I4 := Lib.hid (I4.out.below hb (Nat.le_refl _))
    replace I5 := Lib.hid (I5.out.below hb (Nat.le_refl _))
    replace I6 := Lib.hid (I6.out.below hb (Nat.le_refl _))
    replace I7 := Lib.hid (I7.out.below hb (Nat.le_refl _))
    replace I8 := Lib.hid (I8.out.below hb (Nat.le_refl _))
    replace I9 := Lib.hid (I9.out.below hb (Nat.le_refl _))
    replace I10 := Lib.hid (I10.out.below hb (Nat.le_refl _))
    replace Q := Lib.hid (Q.out.on hb)
    replace F := Lib.hid (F.out.on hb)
    replace G := Lib.hid (G.out.on hb)
    replace M := Lib.hid (M.out.on hb)
    replace P := Lib.hid (P.out.on hb)
    replace B := Lib.hid (B.out.trans (hb.mono B.out.size))
    have I11 := Lib.hid ho11.is
    have I12 := Lib.hid ho12.is
    clear hb
    replace Qp := Q
    replace Q := Lib.hid (Q.out.alloc (.cells #[.int .i64 0, .slice A11 n11 c11, .slice A12 n12 c12] 25))
    replace Fp := F
    replace F := Lib.hid (F.out.alloc (.cells #[.int .i64 0, .slice A11 n11 c11, .slice A12 n12 c12] 25))
    replace Gp := G
    replace G := Lib.hid (G.out.alloc (.cells #[.int .i64 0, .slice A11 n11 c11, .slice A12 n12 c12] 25))
    replace Mp := M
    replace M := Lib.hid (M.out.alloc (.cells #[.int .i64 0, .slice A11 n11 c11, .slice A12 n12 c12] 25))
    have Pp := P
    replace P := Lib.hid (P.out.alloc (.cells #[.int .i64 0, .slice A11 n11 c11, .slice A12 n12 c12] 25))
    replace I1 := Lib.hid (I1.out.alloc (.cells #[.int .i64 0, .slice A11 n11 c11, .slice A12 n12 c12] 25))
    replace I2 := Lib.hid (I2.out.alloc (.cells #[.int .i64 0, .slice A11 n11 c11, .slice A12 n12 c12] 25))
    replace I3 := Lib.hid (I3.out.alloc (.cells #[.int .i64 0, .slice A11 n11 c11, .slice A12 n12 c12] 25))
    replace I4 := Lib.hid (I4.out.alloc (.cells #[.int .i64 0, .slice A11 n11 c11, .slice A12 n12 c12] 25))
    replace I5 := Lib.hid (I5.out.alloc (.cells #[.int .i64 0, .slice A11 n11 c11, .slice A12 n12 c12] 25))
    replace I6 := Lib.hid (I6.out.alloc (.cells #[.int .i64 0, .slice A11 n11 c11, .slice A12 n12 c12] 25))
    replace I7 := Lib.hid (I7.out.alloc (.cells #[.int .i64 0, .slice A11 n11 c11, .slice A12 n12 c12] 25))
    replace I8 := Lib.hid (I8.out.alloc (.cells #[.int .i64 0, .slice A11 n11 c11, .slice A12 n12 c12] 25))
    replace I9 := Lib.hid (I9.out.alloc (.cells #[.int .i64 0, .slice A11 n11 c11, .slice A12 n12 c12] 25))
    replace I10 := Lib.hid (I10.out.alloc (.cells #[.int .i64 0, .slice A11 n11 c11, .slice A12 n12 c12] 25))
    replace I11 := Lib.hid (I11.out.alloc (.cells #[.int .i64 0, .slice A11 n11 c11, .slice A12 n12 c12] 25))
    replace I12 := Lib.hid (I12.out.alloc (.cells #[.int .i64 0, .slice A11 n11 c11, .slice A12 n12 c12] 25))
    replace B := Lib.hid (B.out.alloc B.out.size (.cells #[.int .i64 0, .slice A11 n11 c11, .slice A12 n12 c12] 25))
    have R := Lib.hid (Blk.new w7 25 #[.int .i64 0, .slice A11 n11 c11, .slice A12 n12 c12])
    go_wp2_with (fail)
    go_ret
    exact ⟨ret_bool (by first | rfl | (simp; done) | (simp; omega) | omega), B.out⟩
  rw [k3] at o4
  have K1 := Lib.hid o4
  have K3 := Lib.hid k3
  clear o1 o2 o4 k2 k3
  obtain ⟨f0, f1, f2⟩ := F.out.c3
  have fl := F.out.lt
  go_wp2_with (fail)
  refine (impl_TakeCredit_yes t o 3 _ I3.out I4.out K1.out).mono ?_
  clear f0 f1 f2 fl
  rintro e w5 ⟨A7, n7, c7, A8, n8, c8, rfl, ho7, ho8, hd, hb⟩
  replace I1 := Lib.hid (I1.out.below hb (Nat.le_refl _))
  replace I2 := Lib.hid (I2.out.below hb (Nat.le_refl _))
  replace I3 := Lib.hid (I3.out.below hb (Nat.le_refl _))
  replace I4 := Lib.hid (I4.out.below hb (Nat.le_refl _))
  replace I5 := Lib.hid (I5.out.below hb (Nat.le_refl _))
  replace I6 := Lib.hid (I6.out.below hb (Nat.le_refl _))
  replace Q := Lib.hid (Q.out.on hb)
  replace F := Lib.hid (F.out.on hb)
  replace G := Lib.hid (G.out.on hb)
  replace B := Lib.hid (B.out.trans (hb.mono B.out.size))
  have I7 := Lib.hid ho7.is
  have I8 := Lib.hid ho8.is
  clear hb
  replace Qp := Q
  replace Q := Lib.hid (Q.out.alloc (.cells #[.int .i64 t, .slice A7 n7 c7, .slice A8 n8 c8] 25))
  replace Fp := F
  replace F := Lib.hid (F.out.alloc (.cells #[.int .i64 t, .slice A7 n7 c7, .slice A8 n8 c8] 25))
  have Gp := G
  replace G := Lib.hid (G.out.alloc (.cells #[.int .i64 t, .slice A7 n7 c7, .slice A8 n8 c8] 25))
  replace I1 := Lib.hid (I1.out.alloc (.cells #[.int .i64 t, .slice A7 n7 c7, .slice A8 n8 c8] 25))
  replace I2 := Lib.hid (I2.out.alloc (.cells #[.int .i64 t, .slice A7 n7 c7, .slice A8 n8 c8] 25))
  replace I3 := Lib.hid (I3.out.alloc (.cells #[.int .i64 t, .slice A7 n7 c7, .slice A8 n8 c8] 25))
  replace I4 := Lib.hid (I4.out.alloc (.cells #[.int .i64 t, .slice A7 n7 c7, .slice A8 n8 c8] 25))
  replace I5 := Lib.hid (I5.out.alloc (.cells #[.int .i64 t, .slice A7 n7 c7, .slice A8 n8 c8] 25))
  replace I6 := Lib.hid (I6.out.alloc (.cells #[.int .i64 t, .slice A7 n7 c7, .slice A8 n8 c8] 25))
  replace I7 := Lib.hid (I7.out.alloc (.cells #[.int .i64 t, .slice A7 n7 c7, .slice A8 n8 c8] 25))
  replace I8 := Lib.hid (I8.out.alloc (.cells #[.int .i64 t, .slice A7 n7 c7, .slice A8 n8 c8] 25))
  replace B := Lib.hid (B.out.alloc B.out.size (.cells #[.int .i64 t, .slice A7 n7 c7, .slice A8 n8 c8] 25))
  have M := Lib.hid (Blk.new w5 25 #[.int .i64 t, .slice A7 n7 c7, .slice A8 n8 c8])
  obtain ⟨q0, q1, q2⟩ := Qp.out.c3
  have ql := Qp.out.lt
  go_wp2_with (fail)
  refine (impl_TakeCredit_yes t o 3 _ I1.out I2.out K2.out).mono ?_
  clear q0 q1 q2 ql
  rintro e w6 ⟨A9, n9, c9, A10, n10, c10, rfl, ho9, ho10, hd, hb⟩
  replace I1 := Lib.hid (I1.out.below hb (Nat.le_refl _))
  replace I2 := Lib.hid (I2.out.below hb (Nat.le_refl _))
  replace I3 := Lib.hid (I3.out.below hb (Nat.le_refl _))
  replace I4 := Lib.hid (I4.out.below hb (Nat.le_refl _))
  replace I5 := Lib.hid (I5.out.below hb (Nat.le_refl _))
  replace I6 := Lib.hid (I6.out.below hb (Nat.le_refl _))
  replace I7 := Lib.hid (I7.out.below hb (Nat.le_refl _))
  replace I8 := Lib.hid (I8.out.below hb (Nat.le_refl _))
  replace Q := Lib.hid (Q.out.on hb)
  replace F := Lib.hid (F.out.on hb)
  replace G := Lib.hid (G.out.on hb)
  replace M := Lib.hid (M.out.on hb)
  replace B := Lib.hid (B.out.trans (hb.mono B.out.size))
  have I9 := Lib.hid ho9.is
  have I10 := Lib.hid ho10.is
  clear hb
  replace Qp := Q
  replace Q := Lib.hid (Q.out.alloc (.cells #[.int .i64 t, .slice A9 n9 c9, .slice A10 n10 c10] 25))
  replace Fp := F
  replace F := Lib.hid (F.out.alloc (.cells #[.int .i64 t, .slice A9 n9 c9, .slice A10 n10 c10] 25))
  replace Gp := G
  replace G := Lib.hid (G.out.alloc (.cells #[.int .i64 t, .slice A9 n9 c9, .slice A10 n10 c10] 25))
  have Mp := M
  replace M := Lib.hid (M.out.alloc (.cells #[.int .i64 t, .slice A9 n9 c9, .slice A10 n10 c10] 25))
  replace I1 := Lib.hid (I1.out.alloc (.cells #[.int .i64 t, .slice A9 n9 c9, .slice A10 n10 c10] 25))
  replace I2 := Lib.hid (I2.out.alloc (.cells #[.int .i64 t, .slice A9 n9 c9, .slice A10 n10 c10] 25))
  replace I3 := Lib.hid (I3.out.alloc (.cells #[.int .i64 t, .slice A9 n9 c9, .slice A10 n10 c10] 25))
  replace I4 := Lib.hid (I4.out.alloc (.cells #[.int .i64 t, .slice A9 n9 c9, .slice A10 n10 c10] 25))
  replace I5 := Lib.hid (I5.out.alloc (.cells #[.int .i64 t, .slice A9 n9 c9, .slice A10 n10 c10] 25))
  replace I6 := Lib.hid (I6.out.alloc (.cells #[.int .i64 t, .slice A9 n9 c9, .slice A10 n10 c10] 25))
  replace I7 := Lib.hid (I7.out.alloc (.cells #[.int .i64 t, .slice A9 n9 c9, .slice A10 n10 c10] 25))
  replace I8 := Lib.hid (I8.out.alloc (.cells #[.int .i64 t, .slice A9 n9 c9, .slice A10 n10 c10] 25))
  replace I9 := Lib.hid (I9.out.alloc (.cells #[.int .i64 t, .slice A9 n9 c9, .slice A10 n10 c10] 25))
  replace I10 := Lib.hid (I10.out.alloc (.cells #[.int .i64 t, .slice A9 n9 c9, .slice A10 n10 c10] 25))
  replace B := Lib.hid (B.out.alloc B.out.size (.cells #[.int .i64 t, .slice A9 n9 c9, .slice A10 n10 c10] 25))
  have P := Lib.hid (Blk.new w6 25 #[.int .i64 t, .slice A9 n9 c9, .slice A10 n10 c10])
  go_wp2_with (fail)
  refine (impl_TakeCredit_yes t cl s _ I9.out I10.out K3.out).mono ?_
  rintro e w7 ⟨A11, n11, c11, A12, n12, c12, rfl, ho11, ho12, hd, hb⟩
  replace I1 := Lib.hid (I1.out.below hb (Nat.le_refl _))
  replace I2 := Lib.hid (I2.out.below hb (Nat.le_refl _))
  replace I3 := Lib.hid (I3.out.below hb (Nat.le_refl _))
  replace I4 := Lib.hid (I4.out.below hb (Nat.le_refl _))
  replace I5 := Lib.hid (I5.out.below hb (Nat.le_refl _))
  replace I6 := Lib.hid (I6.out.below hb (Nat.le_refl _))
  replace I7 := Lib.hid (I7.out.below hb (Nat.le_refl _))
  replace I8 := Lib.hid (I8.out.below hb (Nat.le_refl _))
  replace I9 := Lib.hid (I9.out.below hb (Nat.le_refl _))
  replace I10 := Lib.hid (I10.out.below hb (Nat.le_refl _))
  replace Q := Lib.hid (Q.out.on hb)
  replace F := Lib.hid (F.out.on hb)
  replace G := Lib.hid (G.out.on hb)
  replace M := Lib.hid (M.out.on hb)
  replace P := Lib.hid (P.out.on hb)
  replace B := Lib.hid (B.out.trans (hb.mono B.out.size))
  have I11 := Lib.hid ho11.is
  have I12 := Lib.hid ho12.is
  clear hb
  replace Qp := Q
  replace Q := Lib.hid (Q.out.alloc (.cells #[.int .i64 t, .slice A11 n11 c11, .slice A12 n12 c12] 25))
  replace Fp := F
  replace F := Lib.hid (F.out.alloc (.cells #[.int .i64 t, .slice A11 n11 c11, .slice A12 n12 c12] 25))
  replace Gp := G
  replace G := Lib.hid (G.out.alloc (.cells #[.int .i64 t, .slice A11 n11 c11, .slice A12 n12 c12] 25))
  replace Mp := M
  replace M := Lib.hid (M.out.alloc (.cells #[.int .i64 t, .slice A11 n11 c11, .slice A12 n12 c12] 25))
  have Pp := P
  replace P := Lib.hid (P.out.alloc (.cells #[.int .i64 t, .slice A11 n11 c11, .slice A12 n12 c12] 25))
  replace I1 := Lib.hid (I1.out.alloc (.cells #[.int .i64 t, .slice A11 n11 c11, .slice A12 n12 c12] 25))
  replace I2 := Lib.hid (I2.out.alloc (.cells #[.int .i64 t, .slice A11 n11 c11, .slice A12 n12 c12] 25))
  replace I3 := Lib.hid (I3.out.alloc (.cells #[.int .i64 t, .slice A11 n11 c11, .slice A12 n12 c12] 25))
  replace I4 := Lib.hid (I4.out.alloc (.cells #[.int .i64 t, .slice A11 n11 c11, .slice A12 n12 c12] 25))
  replace I5 := Lib.hid (I5.out.alloc (.cells #[.int .i64 t, .slice A11 n11 c11, .slice A12 n12 c12] 25))
  replace I6 := Lib.hid (I6.out.alloc (.cells #[.int .i64 t, .slice A11 n11 c11, .slice A12 n12 c12] 25))
  replace I7 := Lib.hid (I7.out.alloc (.cells #[.int .i64 t, .slice A11 n11 c11, .slice A12 n12 c12] 25))
  replace I8 := Lib.hid (I8.out.alloc (.cells #[.int .i64 t, .slice A11 n11 c11, .slice A12 n12 c12] 25))
  replace I9 := Lib.hid (I9.out.alloc (.cells #[.int .i64 t, .slice A11 n11 c11, .slice A12 n12 c12] 25))
  replace I10 := Lib.hid (I10.out.alloc (.cells #[.int .i64 t, .slice A11 n11 c11, .slice A12 n12 c12] 25))
  replace I11 := Lib.hid (I11.out.alloc (.cells #[.int .i64 t, .slice A11 n11 c11, .slice A12 n12 c12] 25))
  replace I12 := Lib.hid (I12.out.alloc (.cells #[.int .i64 t, .slice A11 n11 c11, .slice A12 n12 c12] 25))
  replace B := Lib.hid (B.out.alloc B.out.size (.cells #[.int .i64 t, .slice A11 n11 c11, .slice A12 n12 c12] 25))
  have R := Lib.hid (Blk.new w7 25 #[.int .i64 t, .slice A11 n11 c11, .slice A12 n12 c12])
  obtain ⟨m0, m1, m2⟩ := Mp.out.c3
  have ml := Mp.out.lt
  go_wp2_with (fail)
  refine (laws_equalBudget_same t _ I7.out (O3.out ▸ I8.out) I11.out I12.out).mono ?_
  clear m0 m1 m2 ml
  rintro e w8 ⟨rfl, hb⟩
  replace I1 := Lib.hid (I1.out.below hb (Nat.le_refl _))
  replace I2 := Lib.hid (I2.out.below hb (Nat.le_refl _))
  replace I3 := Lib.hid (I3.out.below hb (Nat.le_refl _))
  replace I4 := Lib.hid (I4.out.below hb (Nat.le_refl _))
  replace I5 := Lib.hid (I5.out.below hb (Nat.le_refl _))
  replace I6 := Lib.hid (I6.out.below hb (Nat.le_refl _))
  replace I7 := Lib.hid (I7.out.below hb (Nat.le_refl _))
  replace I8 := Lib.hid (I8.out.below hb (Nat.le_refl _))
  replace I9 := Lib.hid (I9.out.below hb (Nat.le_refl _))
  replace I10 := Lib.hid (I10.out.below hb (Nat.le_refl _))
  replace I11 := Lib.hid (I11.out.below hb (Nat.le_refl _))
  replace I12 := Lib.hid (I12.out.below hb (Nat.le_refl _))
  replace Q := Lib.hid (Q.out.on hb)
  replace F := Lib.hid (F.out.on hb)
  replace G := Lib.hid (G.out.on hb)
  replace M := Lib.hid (M.out.on hb)
  replace P := Lib.hid (P.out.on hb)
  replace R := Lib.hid (R.out.on hb)
  replace B := Lib.hid (B.out.trans (hb.mono B.out.size))
  clear hb
  go_wp2_with (fail)
  go_ret
  exact ⟨ret_bool (by first | rfl | (simp; done) | (simp; omega) | omega), B.out⟩
end Go.Proofs.Ytkmjonebjobjnaa
