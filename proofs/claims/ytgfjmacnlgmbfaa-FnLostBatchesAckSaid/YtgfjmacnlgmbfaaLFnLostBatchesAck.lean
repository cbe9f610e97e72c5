/-
  The walk of FnLostBatchesAck. (Its words were written by a program of my own.)
-/
import Derived.Deep.DrawnRows
import Derived.Test.YtgfjmacnlgmbfaaWiN
import Derived.Lib.QuietBelow
import Derived.Deep.DeepMust
import Derived.Test.YtgfjmacnlgmbfaaApp2
import Derived.Deep.RegionLaw
import Derived.Deep.DeepCutAuto
import Derived.Deep.QuietTactic
namespace Go.Proofs.Ytgfjmacnlgmbfaa
open Go.RowKit
attribute [local go_sem ↓] Go.wp_at_zero Go.wp_at_succ
-- CALL: W s0
set_option maxHeartbeats 4000000 in
theorem walk_FnLostBatchesAck {A : Option Addr} {n c : Nat} {zs : List Int} (w : World) (h : BS w A n c zs) :
    Calls Try.prog 16 #[.slice A n c] w fun e w' => e = .returned (.bool true) ∧ Below w.heap.size w w' := by
  have H := Lib.hid h
  clear h
  rcases Nat.lt_or_ge 1048576 n with h1 | h1
  · have h1' : (1048576 : Int) < (n : Int) := by omega
    go_enter Try.func16, Try.ntmps16
    go_wp2_with (fail)
    go_ret
    exact ⟨rfl, Below.refl _ _⟩
  have h1' : ¬ (1048576 : Int) < (n : Int) := by omega
  go_enter Try.func16, Try.ntmps16
  go_wp2_with (fail)
  refine (spec_DrawLostBatches_any w H.out h1).mono ?_
  rintro e w1 ⟨b, nx, xs, A1, n1, c1, m, rfl, ⟨hb0, hb1⟩, ⟨hx0, hx1⟩, hn1, ⟨hm0, hm1⟩, hI1, hb⟩
  have B := Lib.hid hb
  have I1 := Lib.hid hI1
  clear hb hI1
  replace I1 := Lib.hid (I1.out.alloc (.cells #[.int .i64 b, .int .i64 nx, .slice A1 n1 c1] 25))
  replace B := Lib.hid (B.out.alloc B.out.size (.cells #[.int .i64 b, .int .i64 nx, .slice A1 n1 c1] 25))
  have Q := Lib.hid (Blk.new w1 25 #[.int .i64 b, .int .i64 nx, .slice A1 n1 c1])
  obtain ⟨os, eo⟩ : ∃ v, lostL b nx xs m = v := ⟨_, rfl⟩
  have HO := Lib.hid eo
  have hle := lostL_le b nx xs m
  rw [eo] at hle
  clear eo
  go_wp2_with (fail)
  refine (ints_at (impl_LostBatches_any b nx m _ I1.out) HO.out).mono ?_
  rintro e w2 ⟨A2, n2, c2, rfl, ho, hb⟩
  replace I1 := Lib.hid (I1.out.below hb (Nat.le_refl _))
  replace Q := Lib.hid (Q.out.on hb)
  replace B := Lib.hid (B.out.trans (hb.mono B.out.size))
  have I2 := Lib.hid ho.is
  clear hb
  have hn2 : n2 ≤ 8 := by have := I2.out.len; omega
  clear hle
  rcases Nat.eq_zero_or_pos n2 with h0 | h0
  · skip
    have hz : ((n2 : Int) == 0) = true := by simp [h0]
    clear h0
    obtain ⟨q0, q1, q2⟩ := Q.out.c3
    have ql := Q.out.lt
    go_wp2_with (fail)
    refine (ints_at (spec_LostBatches_any b nx m _ I1.out) HO.out).mono ?_
    clear q0 q1 q2 ql
    rintro e w3 ⟨A3, n3, c3, rfl, ho, hb⟩
    replace I1 := Lib.hid (I1.out.below hb (Nat.le_refl _))
    replace I2 := Lib.hid (I2.out.below hb (Nat.le_refl _))
    replace Q := Lib.hid (Q.out.on hb)
    replace B := Lib.hid (B.out.trans (hb.mono B.out.size))
    have I3 := Lib.hid ho.is
    clear hb
    go_wp2_with (fail)
    refine (equalInts_same _ I2.out I3.out).mono ?_
    rintro e w4 ⟨rfl, hb⟩
    replace I1 := Lib.hid (I1.out.below hb (Nat.le_refl _))
    replace I2 := Lib.hid (I2.out.below hb (Nat.le_refl _))
    replace I3 := Lib.hid (I3.out.below hb (Nat.le_refl _))
    replace Q := Lib.hid (Q.out.on hb)
    replace B := Lib.hid (B.out.trans (hb.mono B.out.size))
    clear hb
    obtain ⟨q0, q1, q2⟩ := Q.out.c3
    have ql := Q.out.lt
    go_wp2_with (fail)
    refine (ints_at (spec_LostBatches_any b nx m _ I1.out) HO.out).mono ?_
    clear q0 q1 q2 ql
    rintro e w5 ⟨A4, n4, c4, rfl, ho, hb⟩
    replace I1 := Lib.hid (I1.out.below hb (Nat.le_refl _))
    replace I2 := Lib.hid (I2.out.below hb (Nat.le_refl _))
    replace I3 := Lib.hid (I3.out.below hb (Nat.le_refl _))
    replace Q := Lib.hid (Q.out.on hb)
    replace B := Lib.hid (B.out.trans (hb.mono B.out.size))
    have I4 := Lib.hid ho.is
    clear hb
    go_wp2_with (fail)
    refine (equalInts_same _ I2.out I4.out).mono ?_
    rintro e w6 ⟨rfl, hb⟩
    replace I1 := Lib.hid (I1.out.below hb (Nat.le_refl _))
    replace I2 := Lib.hid (I2.out.below hb (Nat.le_refl _))
    replace I3 := Lib.hid (I3.out.below hb (Nat.le_refl _))
    replace I4 := Lib.hid (I4.out.below hb (Nat.le_refl _))
    replace Q := Lib.hid (Q.out.on hb)
    replace B := Lib.hid (B.out.trans (hb.mono B.out.size))
    clear hb
    go_wp2_with (fail)
    go_ret
    exact ⟨ret_bool (rfl), B.out⟩
  have hz : ((n2 : Int) == 0) = false := by simp; omega
  obtain ⟨q0, q1, q2⟩ := Q.out.c3
  have ql := Q.out.lt
  go_wp2_with (fail)
  refine (ints_at (spec_LostBatches_any b nx m _ I1.out) HO.out).mono ?_
  clear q0 q1 q2 ql
  rintro e w3 ⟨A3, n3, c3, rfl, ho, hb⟩
  replace I1 := Lib.hid (I1.out.below hb (Nat.le_refl _))
  replace I2 := Lib.hid (I2.out.below hb (Nat.le_refl _))
  replace Q := Lib.hid (Q.out.on hb)
  replace B := Lib.hid (B.out.trans (hb.mono B.out.size))
  have I3 := Lib.hid ho.is
  clear hb
  go_wp2_with (fail)
  refine (equalInts_same _ I2.out I3.out).mono ?_
  rintro e w4 ⟨rfl, hb⟩
  replace I1 := Lib.hid (I1.out.below hb (Nat.le_refl _))
  replace I2 := Lib.hid (I2.out.below hb (Nat.le_refl _))
  replace I3 := Lib.hid (I3.out.below hb (Nat.le_refl _))
  replace Q := Lib.hid (Q.out.on hb)
  replace B := Lib.hid (B.out.trans (hb.mono B.out.size))
  clear hb
  have zz : (0 : Int) < (n2 : Int) := by omega
  obtain ⟨g, off, x, rfl, hx, hc⟩ := I2.out.at_ (k := 0) h0
  have hcx : w4.cell? ⟨g, off, none⟩ = some (.int .i64 x) := hc
  have hgl : g < w4.heap.size := World.block_lt_of_cell? w4 ⟨g, off, none⟩ hcx
  have HX := Lib.hid hx
  obtain ⟨q0, q1, q2⟩ := Q.out.c3
  have ql := Q.out.lt
  clear hx
  rcases hk : akOK b nx xs x with _ | _
  · have HK := Lib.hid hk
    clear hk
    go_upto_region 7 with (fail)
    go_cut [6, 7] (fun s6 s7 wx => ∃ (g' : Nat), s6 = .pointer (some ⟨g', 0, none⟩) ∧ s7 = .bool false ∧ Hid (Below w4.heap.size w4 wx))
    case first =>
      go_region_law (refine step_is 28 _ _ rfl ?_; go_simp; go_at_call 28; go_must (refine (ak_no (impl_AckBatch_any b nx x _ (by first | exact I1.out | exact I1.out.drew | exact I1.out.alloc _ | exact (I1.out.alloc _).drew | exact I1.out.drew.alloc _)) HK.out).mono ?_; rintro e wa ⟨B', p, d, rfl, ho, hb⟩; have HA : Hid (Below w4.heap.size w4 wa) := Lib.hid (below_then (a := w4) (by repeat (first | exact Below.refl _ _ | with_reducible refine Below.drew ?_ | with_reducible refine Below.alloc ?_ (by first | omega | (simp; done) | (simp; omega)) _)) hb); (try (have G3 := Lib.hid (Blk.on (by first | exact Blk.new w4 25 #[.int .i64 0, .int .i64 0, .slice none 0 0] | exact (Blk.new w4 25 #[.int .i64 0, .int .i64 0, .slice none 0 0]).drew | exact Blk.new w4.drew 25 #[.int .i64 0, .int .i64 0, .slice none 0 0]) hb))); (try obtain ⟨g30, g31, g32⟩ := G3.out.c3); (try have g33 := G3.out.frozen 0); (try have g34 := G3.out.frozen 1); (try have g35 := G3.out.frozen 2); clear ho hb))
      all_goals (go_wp2_with (fail); go_meet)
      all_goals (first
        | exact ⟨_, rfl, rfl, Lib.hid (HA.out.alloc HA.out.size _)⟩
        | exact ⟨_, rfl, rfl, Lib.hid (((HA.out.setCell (Nat.le_refl _) _).setCell (Nat.le_refl _) _).setCell (Nat.le_refl _) _)⟩)
    case rest =>
      obtain ⟨g', rfl, rfl, HB⟩ := hcut
      clear q0 q1 q2
      go_wp2_with (fail)
      go_quiet (fail)
      go_wp2_with (fail)
      go_ret
      exact ⟨rfl, below_drewN (B.out.trans (HB.out.mono B.out.size)) _⟩
  · have HK := Lib.hid hk
    have HL2 := Lib.hid (lost_ack (many := m) hk)
    obtain ⟨u, eu⟩ : ∃ v, akU b nx xs x = v := ⟨_, rfl⟩
    obtain ⟨ys, ey⟩ : ∃ v, akL b nx xs x = v := ⟨_, rfl⟩
    rw [eu, ey] at HL2
    have HU := Lib.hid eu
    have HY := Lib.hid ey
    clear hk eu ey
    go_upto_region 7 with (fail)
    go_cut [6, 7] (fun s6 s7 wx => ∃ (g' : Nat) (B' : Option Addr) (p d : Nat), s6 = .pointer (some ⟨g', 0, none⟩) ∧ s7 = .bool true ∧ Hid (Below w4.heap.size w4 wx) ∧ Hid (Blk wx g' 25 #[.int .i64 u, .int .i64 nx, .slice B' p d]) ∧ Hid (IS wx B' p d ys))
    case first =>
      go_region_law (refine step_is 28 _ _ rfl ?_; go_simp; go_at_call 28; go_must (refine (ak_yes (impl_AckBatch_any b nx x _ (by first | exact I1.out | exact I1.out.drew | exact I1.out.alloc _ | exact (I1.out.alloc _).drew | exact I1.out.drew.alloc _)) HK.out HU.out HY.out).mono ?_; rintro e wa ⟨B', p, d, rfl, ho, hb⟩; have HA : Hid (Below w4.heap.size w4 wa) := Lib.hid (below_then (a := w4) (by repeat (first | exact Below.refl _ _ | with_reducible refine Below.drew ?_ | with_reducible refine Below.alloc ?_ (by first | omega | (simp; done) | (simp; omega)) _)) hb); have P := Lib.hid ho.is; (try (have DD : Hid (Disj (some ⟨w4.heap.size, 0, none⟩) B') := Lib.hid (ge_disj (by first | (simp; done) | (show w4.heap.size < (w4.alloc _).heap.size; simp)) ho.ge))); (try (have G3 := Lib.hid (Blk.on (by first | exact Blk.new w4 25 #[.int .i64 0, .int .i64 0, .slice none 0 0] | exact (Blk.new w4 25 #[.int .i64 0, .int .i64 0, .slice none 0 0]).drew | exact Blk.new w4.drew 25 #[.int .i64 0, .int .i64 0, .slice none 0 0]) hb))); (try obtain ⟨g30, g31, g32⟩ := G3.out.c3); (try have g33 := G3.out.frozen 0); (try have g34 := G3.out.frozen 1); (try have g35 := G3.out.frozen 2); clear ho hb))
      all_goals (go_wp2_with (fail); go_meet)
      all_goals (first
        | exact ⟨_, B', p, d, rfl, rfl, Lib.hid (HA.out.alloc HA.out.size _), Lib.hid (Blk.new _ _ _), Lib.hid (P.out.alloc _)⟩
        | exact ⟨_, B', p, d, rfl, rfl, Lib.hid (((HA.out.setCell (Nat.le_refl _) _).setCell (Nat.le_refl _) _).setCell (Nat.le_refl _) _), Lib.hid (by simpa using ((G3.out.set_ 0 (.int .i64 u)).set_ 1 (.int .i64 nx)).set_ 2 (.slice B' p d)), Lib.hid (((P.out.setCell DD.out _).setCell DD.out _).setCell DD.out _)⟩)
    case rest =>
      obtain ⟨g', B', p, d, rfl, rfl, HB, KB, PB⟩ := hcut
      clear q0 q1 q2
      obtain ⟨k0, k1, k2⟩ := KB.out.c3
      have kl := KB.out.lt
      have hcy := cell_up (W := wc) HB.out hcx
      go_wp2_with (fail)
      go_region_law (first
        | (refine step_is 33 _ _ rfl ?_; go_simp; go_at_call 33; go_must (refine (impl_LostBatches_any u nx m _ (by first | exact PB.out | exact PB.out.drew)).mono ?_; rintro e wd ⟨E, r, d2, rfl, ho, hb⟩; have L2 := Lib.hid ho.is; have HD : Hid (Below w4.heap.size w4 wd) := Lib.hid (by first | exact HB.out.trans (hb.mono HB.out.size) | exact HB.out.drew.trans (hb.mono HB.out.size)); clear ho hb; have hcz := cell_up (W := wd) HD.out hcx))
        | (refine step_is 20 _ _ rfl ?_; go_simp; go_at_call 20; go_must (refine (below_of_same (call_bool (laws_isIn_any x _ (by first | exact L2.out | exact L2.out.drew)) HL2.out)).mono ?_; rintro e we ⟨rfl, hb⟩; have HE : Hid (Below w4.heap.size w4 we) := Lib.hid (by first | exact HD.out.trans (hb.mono HD.out.size) | exact HD.out.drew.trans (hb.mono HD.out.size)); clear hb)))
      all_goals (
        go_wp2_with (fail)
        go_ret
        exact ⟨rfl, B.out.trans (HE.out.mono B.out.size)⟩)
end Go.Proofs.Ytgfjmacnlgmbfaa
