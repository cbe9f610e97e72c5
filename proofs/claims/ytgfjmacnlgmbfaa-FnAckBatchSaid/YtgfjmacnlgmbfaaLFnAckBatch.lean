/-
  The walk of FnAckBatch. (Its words were written by a program of my own.)
-/
import Derived.Deep.DrawnRows
import Derived.Test.YtgfjmacnlgmbfaaWiN
import Derived.Lib.QuietBelow
import Derived.Deep.DeepMust
namespace Go.Proofs.Ytgfjmacnlgmbfaa
open Go.RowKit
attribute [local go_sem ↓] Go.wp_at_zero Go.wp_at_succ
-- CALL: W s0
set_option maxHeartbeats 4000000 in
theorem walk_FnAckBatch {A : Option Addr} {n c : Nat} {zs : List Int} (w : World) (h : BS w A n c zs) :
    Calls Try.prog 6 #[.slice A n c] w fun e w' => e = .returned (.bool true) ∧ Below w.heap.size w w' := by
  have H := Lib.hid h
  clear h
  rcases Nat.lt_or_ge 1048576 n with h1 | h1
  · have h1' : (1048576 : Int) < (n : Int) := by omega
    go_enter Try.func6, Try.ntmps6
    go_wp2_with (fail)
    go_ret
    exact ⟨rfl, Below.refl _ _⟩
  have h1' : ¬ (1048576 : Int) < (n : Int) := by omega
  go_enter Try.func6, Try.ntmps6
  go_wp2_with (fail)
  refine (spec_DrawAckBatch_any w H.out h1).mono ?_
  rintro e w1 ⟨b, nx, xs, A1, n1, c1, m, rfl, ⟨hb0, hb1⟩, ⟨hx0, hx1⟩, hn1, ⟨hm0, hm1⟩, hI1, hb⟩
  have B := Lib.hid hb
  have I1 := Lib.hid hI1
  clear hb hI1
  replace I1 := Lib.hid (I1.out.alloc (.cells #[.int .i64 b, .int .i64 nx, .slice A1 n1 c1] 25))
  replace B := Lib.hid (B.out.alloc B.out.size (.cells #[.int .i64 b, .int .i64 nx, .slice A1 n1 c1] 25))
  have Q := Lib.hid (Blk.new w1 25 #[.int .i64 b, .int .i64 nx, .slice A1 n1 c1])
  rcases hk : akOK b nx xs m with _ | _
  · skip
    have HK := Lib.hid hk
    clear hk
    go_wp2_with (fail)
    refine (ak_no (impl_AckBatch_any b nx m _ I1.out) HK.out).mono ?_
    rintro e w2 ⟨A2, n2, c2, rfl, ho, hb⟩
    replace I1 := Lib.hid (I1.out.below hb (Nat.le_refl _))
    replace Q := Lib.hid (Q.out.on hb)
    replace B := Lib.hid (B.out.trans (hb.mono B.out.size))
    have I2 := Lib.hid ho.is
    clear hb
    have Qp := Q
    replace Q := Lib.hid (Q.out.alloc (.cells #[.int .i64 0, .int .i64 0, .slice A2 n2 c2] 25))
    replace I1 := Lib.hid (I1.out.alloc (.cells #[.int .i64 0, .int .i64 0, .slice A2 n2 c2] 25))
    replace I2 := Lib.hid (I2.out.alloc (.cells #[.int .i64 0, .int .i64 0, .slice A2 n2 c2] 25))
    replace B := Lib.hid (B.out.alloc B.out.size (.cells #[.int .i64 0, .int .i64 0, .slice A2 n2 c2] 25))
    have F := Lib.hid (Blk.new w2 25 #[.int .i64 0, .int .i64 0, .slice A2 n2 c2])
    obtain ⟨q0, q1, q2⟩ := Qp.out.c3
    have ql := Qp.out.lt
    go_wp2_with (fail)
    refine (ak_no (spec_AckBatch_any b nx m _ I1.out) HK.out).mono ?_
    clear q0 q1 q2 ql
    rintro e w3 ⟨A3, n3, c3, rfl, ho, hb⟩
    replace I1 := Lib.hid (I1.out.below hb (Nat.le_refl _))
    replace I2 := Lib.hid (I2.out.below hb (Nat.le_refl _))
    replace Q := Lib.hid (Q.out.on hb)
    replace F := Lib.hid (F.out.on hb)
    replace B := Lib.hid (B.out.trans (hb.mono B.out.size))
    have I3 := Lib.hid ho.is
    clear hb
    replace Qp := Q
    replace Q := Lib.hid (Q.out.alloc (.cells #[.int .i64 0, .int .i64 0, .slice A3 n3 c3] 25))
    have Fp := F
    replace F := Lib.hid (F.out.alloc (.cells #[.int .i64 0, .int .i64 0, .slice A3 n3 c3] 25))
    replace I1 := Lib.hid (I1.out.alloc (.cells #[.int .i64 0, .int .i64 0, .slice A3 n3 c3] 25))
    replace I2 := Lib.hid (I2.out.alloc (.cells #[.int .i64 0, .int .i64 0, .slice A3 n3 c3] 25))
    replace I3 := Lib.hid (I3.out.alloc (.cells #[.int .i64 0, .int .i64 0, .slice A3 n3 c3] 25))
    replace B := Lib.hid (B.out.alloc B.out.size (.cells #[.int .i64 0, .int .i64 0, .slice A3 n3 c3] 25))
    have G := Lib.hid (Blk.new w3 25 #[.int .i64 0, .int .i64 0, .slice A3 n3 c3])
    obtain ⟨f0, f1, f2⟩ := Fp.out.c3
    have fl := Fp.out.lt
    go_wp2_with (fail)
    refine (equalWindow_same 0 0 _ I2.out I3.out).mono ?_
    clear f0 f1 f2 fl
    rintro e w4 ⟨rfl, hb⟩
    replace I1 := Lib.hid (I1.out.below hb (Nat.le_refl _))
    replace I2 := Lib.hid (I2.out.below hb (Nat.le_refl _))
    replace I3 := Lib.hid (I3.out.below hb (Nat.le_refl _))
    replace Q := Lib.hid (Q.out.on hb)
    replace F := Lib.hid (F.out.on hb)
    replace G := Lib.hid (G.out.on hb)
    replace B := Lib.hid (B.out.trans (hb.mono B.out.size))
    clear hb
    obtain ⟨f0, f1, f2⟩ := F.out.c3
    have fl := F.out.lt
    obtain ⟨g0, g1, g2⟩ := G.out.c3
    have gl := G.out.lt
    go_wp2_with (fail)
    refine (equalWindow_same 0 0 _ I2.out I3.out).mono ?_
    clear f0 f1 f2 fl g0 g1 g2 gl
    rintro e w5 ⟨rfl, hb⟩
    replace I1 := Lib.hid (I1.out.below hb (Nat.le_refl _))
    replace I2 := Lib.hid (I2.out.below hb (Nat.le_refl _))
    replace I3 := Lib.hid (I3.out.below hb (Nat.le_refl _))
    replace Q := Lib.hid (Q.out.on hb)
    replace F := Lib.hid (F.out.on hb)
    replace G := Lib.hid (G.out.on hb)
    replace B := Lib.hid (B.out.trans (hb.mono B.out.size))
    clear hb
    go_wp2_with (fail)
    go_ret
    exact ⟨ret_bool (rfl), B.out⟩
  have HK := Lib.hid hk
  obtain ⟨u, eu⟩ : ∃ v, akU b nx xs m = v := ⟨_, rfl⟩
  obtain ⟨ys, ey⟩ : ∃ v, akL b nx xs m = v := ⟨_, rfl⟩
  obtain ⟨hu0, hu1, hu2, _⟩ := ak_facts hk
  obtain ⟨hv, hmm0, hmm1, _⟩ := akOK_iff.1 hk
  obtain ⟨hv0, hv1, hv2, hv3, _⟩ := winV_facts hv
  rw [eu] at hu0 hu1 hu2
  have HV := Lib.hid hv
  have HU := Lib.hid eu
  have HY := Lib.hid ey
  clear hk hv eu ey
  go_wp2_with (fail)
  refine (ak_yes (impl_AckBatch_any b nx m _ I1.out) HK.out HU.out HY.out).mono ?_
  rintro e w2 ⟨A2, n2, c2, rfl, ho, hb⟩
  replace I1 := Lib.hid (I1.out.below hb (Nat.le_refl _))
  replace Q := Lib.hid (Q.out.on hb)
  replace B := Lib.hid (B.out.trans (hb.mono B.out.size))
  have I2 := Lib.hid ho.is
  clear hb
  have Qp := Q
  replace Q := Lib.hid (Q.out.alloc (.cells #[.int .i64 u, .int .i64 nx, .slice A2 n2 c2] 25))
  replace I1 := Lib.hid (I1.out.alloc (.cells #[.int .i64 u, .int .i64 nx, .slice A2 n2 c2] 25))
  replace I2 := Lib.hid (I2.out.alloc (.cells #[.int .i64 u, .int .i64 nx, .slice A2 n2 c2] 25))
  replace B := Lib.hid (B.out.alloc B.out.size (.cells #[.int .i64 u, .int .i64 nx, .slice A2 n2 c2] 25))
  have F := Lib.hid (Blk.new w2 25 #[.int .i64 u, .int .i64 nx, .slice A2 n2 c2])
  obtain ⟨q0, q1, q2⟩ := Qp.out.c3
  have ql := Qp.out.lt
  go_wp2_with (fail)
  refine (ak_yes (spec_AckBatch_any b nx m _ I1.out) HK.out HU.out HY.out).mono ?_
  clear q0 q1 q2 ql
  rintro e w3 ⟨A3, n3, c3, rfl, ho, hb⟩
  replace I1 := Lib.hid (I1.out.below hb (Nat.le_refl _))
  replace I2 := Lib.hid (I2.out.below hb (Nat.le_refl _))
  replace Q := Lib.hid (Q.out.on hb)
  replace F := Lib.hid (F.out.on hb)
  replace B := Lib.hid (B.out.trans (hb.mono B.out.size))
  have I3 := Lib.hid ho.is
  clear hb
  replace Qp := Q
  replace Q := Lib.hid (Q.out.alloc (.cells #[.int .i64 u, .int .i64 nx, .slice A3 n3 c3] 25))
  have Fp := F
  replace F := Lib.hid (F.out.alloc (.cells #[.int .i64 u, .int .i64 nx, .slice A3 n3 c3] 25))
  replace I1 := Lib.hid (I1.out.alloc (.cells #[.int .i64 u, .int .i64 nx, .slice A3 n3 c3] 25))
  replace I2 := Lib.hid (I2.out.alloc (.cells #[.int .i64 u, .int .i64 nx, .slice A3 n3 c3] 25))
  replace I3 := Lib.hid (I3.out.alloc (.cells #[.int .i64 u, .int .i64 nx, .slice A3 n3 c3] 25))
  replace B := Lib.hid (B.out.alloc B.out.size (.cells #[.int .i64 u, .int .i64 nx, .slice A3 n3 c3] 25))
  have G := Lib.hid (Blk.new w3 25 #[.int .i64 u, .int .i64 nx, .slice A3 n3 c3])
  obtain ⟨f0, f1, f2⟩ := Fp.out.c3
  have fl := Fp.out.lt
  go_wp2_with (fail)
  refine (equalWindow_same u nx _ I2.out I3.out).mono ?_
  clear f0 f1 f2 fl
  rintro e w4 ⟨rfl, hb⟩
  replace I1 := Lib.hid (I1.out.below hb (Nat.le_refl _))
  replace I2 := Lib.hid (I2.out.below hb (Nat.le_refl _))
  replace I3 := Lib.hid (I3.out.below hb (Nat.le_refl _))
  replace Q := Lib.hid (Q.out.on hb)
  replace F := Lib.hid (F.out.on hb)
  replace G := Lib.hid (G.out.on hb)
  replace B := Lib.hid (B.out.trans (hb.mono B.out.size))
  clear hb
  obtain ⟨os, eo⟩ : ∃ v, openL b nx xs = v := ⟨_, rfl⟩
  have HO := Lib.hid eo
  have hle := openL_le b nx xs
  rw [eo] at hle
  have hfo : openL u nx ys = os.filter (fun n => decide (n ≠ m)) := by
    have h := (ak_facts HK.out).2.2.2.2.1
    rw [HU.out, HY.out, eo] at h
    exact h
  have HF := Lib.hid hfo
  have hvo : winV u nx ys = true := by
    have h := (ak_facts HK.out).2.2.2.1
    rw [HU.out, HY.out] at h
    exact h
  have HVO := Lib.hid hvo
  clear eo hfo hvo
  obtain ⟨q0, q1, q2⟩ := Q.out.c3
  have ql := Q.out.lt
  go_wp2_with (fail)
  refine (ints_at (impl_OpenBatches_any b nx _ I1.out) HO.out).mono ?_
  clear q0 q1 q2 ql
  rintro e w5 ⟨A4, n4, c4, rfl, ho, hb⟩
  replace I1 := Lib.hid (I1.out.below hb (Nat.le_refl _))
  replace I2 := Lib.hid (I2.out.below hb (Nat.le_refl _))
  replace I3 := Lib.hid (I3.out.below hb (Nat.le_refl _))
  replace Q := Lib.hid (Q.out.on hb)
  replace F := Lib.hid (F.out.on hb)
  replace G := Lib.hid (G.out.on hb)
  replace B := Lib.hid (B.out.trans (hb.mono B.out.size))
  have I4 := Lib.hid ho.is
  clear hb
  have hn4 : n4 ≤ 8 := by have := I4.out.len; omega
  have HXL := Lib.hid I4.out.len
  go_wp2_with (fail)
  have LO := Lib.hid (OW.lit w5 3 w5.heap.size [] (Nat.le_refl _) (by simp))
  have LB : Hid (Below w5.heap.size w5 (w5.alloc (.cells #[] 3))) := Lib.hid (below_new _ _)
  obtain ⟨wz, eW⟩ : ∃ v, v = w5.alloc (.cells #[] 3) := ⟨_, rfl⟩
  simp only [List.map_nil] at LO
  rw [← eW] at LO LB ⊢
  clear eW
  go_loopw [10, 11] (fun q i wr => ∃ (j p c' : Nat) (A' : Option Addr), j ≤ n4 ∧ p ≤ j ∧ i = .int .i64 (j : Int) ∧ q = .slice A' p c' ∧ Hid (OW wr 3 w5.heap.size A' p c' ((os.take j).filter (fun n => decide (n ≠ m)))) ∧ Hid (Below w5.heap.size w5 wr)) (fun _ i _ => n4 - (intOf i).toNat)
  case atStart => exact ⟨0, 0, 0, _, Nat.zero_le _, Nat.zero_le _, rfl, rfl, Lib.hid (by simpa using LO.out), LB⟩
  case round =>
    obtain ⟨j, p, c', A', hj, hp, rfl, rfl, O, BW⟩ := hrel
    have hsz := BW.out.size
    have I := Lib.hid (I4.out.below BW.out (Nat.le_refl _))
    by_cases hlt : j < n4
    · obtain ⟨g, off, v, rfl, hx, hc⟩ := I.out.at_ hlt
      have HX := Lib.hid hx
      clear hx
      by_cases hvm : v = m
      · have hvm' : (v != m) = false := by simp [hvm]
        have HM := Lib.hid hvm
        clear hvm
        go_wp2_with (fail)
        go_roundw
        case rel => exact ⟨j + 1, p, c', A', by omega, by omega, by first | rfl | go_num, rfl, Lib.hid (by rw [filter_no HX.out (by simp [HM.out])]; exact O.out), BW⟩
        case measure => simp [intOf]; omega
      · have hvm' : (v != m) = true := by simp [hvm]
        have HM := Lib.hid hvm
        clear hvm
        have O7 := Lib.hid (O.out.alloc (.cells #[.int .i64 v] 3))
        have SV : Hid (IS (wr.alloc (.cells #[.int .i64 v] 3)) (some ⟨wr.heap.size, 0, none⟩) 1 1 [v]) := Lib.hid (by simpa using (OW.lit wr 3 0 [v] (by simp) (by simp)).is)
        have B7 := Lib.hid (BW.out.alloc BW.out.size (.cells #[.int .i64 v] 3))
        go_wp2_with (at_builtin; go_must (refine wpList_append_is _ rfl (.tmp 68) (.tmp 73) _ rfl w5.heap.size 3 infoInt Try.underlying23 _ _ _ _ rfl O7.out _ _ _ _ rfl SV.out (by omega) (by simp; omega) ?_); intro A8 c8 w8 hown8 hg8; have O8 := Lib.hid hown8; have B8 := Lib.hid (O7.out.below_grown hg8 B7.out (Nat.le_refl _) (by simp; omega)); clear hown8 hg8)
        go_roundw
        case rel => exact ⟨j + 1, p + 1, c8, A8, by omega, by omega, by first | rfl | go_num, rfl, Lib.hid (by rw [filter_yes HX.out (by simp [HM.out])]; exact O8.out), B8⟩
        case measure => simp [intOf]; omega
    · have hO := O.out.is
      rw [List.take_of_length_le (by have := HXL.out; omega), ← HF.out] at hO
      have O9 := Lib.hid hO
      have BB := Lib.hid (B.out.trans (BW.out.mono B.out.size))
      have F9 := Lib.hid (F.out.on BW.out)
      have Q9 := Lib.hid (Q.out.on BW.out)
      have I9 := Lib.hid (I2.out.below BW.out (Nat.le_refl _))
      obtain ⟨f0, f1, f2⟩ := F9.out.c3
      clear hO
      go_wp2_with (fail)
      clear f0 f1 f2
      refine (impl_OpenBatches_any u nx _ I9.out).mono ?_
      rintro e wx ⟨A5, n5, c5, rfl, ho, hb⟩
      have I5 := Lib.hid ho.is
      have O10 := Lib.hid (O9.out.below hb (Nat.le_refl _))
      have F10 := Lib.hid (F9.out.on hb)
      have Q10 := Lib.hid (Q9.out.on hb)
      have I10 := Lib.hid (I9.out.below hb (Nat.le_refl _))
      have B10 := Lib.hid (BB.out.trans (hb.mono BB.out.size))
      clear ho hb
      go_wp2_with (fail)
      refine (equalInts_same _ I5.out O10.out).mono ?_
      rintro e wy ⟨rfl, hb⟩
      have F11 := Lib.hid (F10.out.on hb)
      have Q11 := Lib.hid (Q10.out.on hb)
      have I11 := Lib.hid (I10.out.below hb (Nat.le_refl _))
      have B11 := Lib.hid (B10.out.trans (hb.mono B10.out.size))
      clear hb
      obtain ⟨f0, f1, f2⟩ := F11.out.c3
      go_wp2_with (fail)
      clear f0 f1 f2
      refine (call_bool (impl_ValidWindow_any u nx _ I11.out) HVO.out).mono ?_
      rintro e wv ⟨rfl, hb⟩
      have F12 := Lib.hid (F11.out.on hb)
      have Q12 := Lib.hid (Q11.out.on hb)
      have B12 := Lib.hid (B11.out.trans (hb.mono B11.out.size))
      clear hb
      obtain ⟨f0, f1, f2⟩ := F12.out.c3
      obtain ⟨q0, q1, q2⟩ := Q12.out.c3
      go_wp2_with (fail)
      go_ret
      exact ⟨ret_bool (by simp), B12.out⟩
end Go.Proofs.Ytgfjmacnlgmbfaa
