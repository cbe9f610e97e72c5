/-
  Drawn streams: someStream, anyStream.
-/
import Derived.Test.YtehbkfgcbeldiaaGenI
namespace Go.Proofs.Ytehbkfgcbeldiaa
open Go.RowKit
/-- Drawn numbers. -/
def DrewNums (T R : TypeId) (w : World) (r N m : Nat) (e : Ending) (w' : World) : Prop :=
  ∃ xs A n c, e = .returned (.slice A n c) ∧ n ≤ m ∧ OW w' T w.heap.size A n c xs ∧ RD w' R r N ∧ Rd w w' r
set_option maxHeartbeats 6000000 in
theorem someStream_any (r N : Nat) (w : World) (h : RD w 46 r N) (hN : N ≤ 700000) :
    Calls Try.prog 19 #[.pointer (some ⟨r, 0, none⟩)] w (DrewNums 3 46 w r (N + 100) 60) := by
  have hr := h.lt
  have H := Lib.hid h
  clear h
  go_enter Try.func19, Try.ntmps19
  go_wp2_with (fail)
  refine (one_any (xs := [2, 3, 1, 4, 0]) (fun x => 0 ≤ x ∧ x ≤ 4) r N _ (H.out.below (((below_new w _).trans ((below_new _ _).mono (by simp))).mono hr)) (by omega) (by simpa using OW.lit (w.alloc (.cells #[] 3)) 3 (r + 1) [2, 3, 1, 4, 0] (by simp; omega) (by simp)) (by omega) (by omega) (by simp)).mono ?_
  rintro e w4 ⟨j0, rfl, ⟨hj0, hj4⟩, hr4, hw4⟩
  obtain ⟨j, rfl⟩ := Int.eq_ofNat_of_zero_le hj0
  have O4 : Hid (OW w4 3 w.heap.size (some ⟨w.heap.size, 0, none⟩) 0 0 []) := Lib.hid (by
    have o : OW (w.alloc (.cells #[] 3)) 3 w.heap.size (some ⟨w.heap.size, 0, none⟩) 0 0 [] := by simpa using OW.lit w 3 w.heap.size [] (Nat.le_refl _) (by simp)
    exact (o.alloc _).rd hw4 hr)
  have R4 := Lib.hid hr4
  have W4 := Lib.hid ((Rd.of_below ((below_new w (.cells #[] 3)).trans ((below_new _ (.cells #[.int .i64 2, .int .i64 3, .int .i64 1, .int .i64 4, .int .i64 0] 3)).mono (by simp)))).trans hw4)
  clear hr4 hw4
  go_wp2_with (fail)
  go_loopw [3, 4] (fun v i wr => ∃ (j d n c : Nat) (A : Option Addr) (xs : List Int), v = .slice A n c ∧ i = .int .i64 j ∧ j + d ≤ 4 ∧ n ≤ 14 * d ∧ Hid (OW wr 3 w.heap.size A n c xs) ∧ Hid (RD wr 46 r (N + 1 + 22 * d)) ∧ Hid (Rd w wr r)) (fun _ i _ => (intOf i).toNat)
  case atStart => exact ⟨j, 0, 0, 0, _, [], rfl, rfl, by omega, by omega, O4, by simpa using R4, W4⟩
  case round =>
    obtain ⟨j', d, n, c, A, xs, rfl, rfl, hjd, hnd, HO, HR, HW⟩ := hrel
    clear O4 R4 W4
    by_cases hlt : 0 < j'
    · go_wp2_with (fail)
      refine (someItem_any r _ wr HR.out (by omega)).mono ?_
      rintro e w5 ⟨cl, ky, ys, A5, n5, c5, rfl, hv, hn5, ho5, hr5, hw5⟩
      have I5 := Lib.hid ho5.is
      have O5 := Lib.hid (HO.out.rd hw5 hr)
      have R5 := Lib.hid hr5
      have W5 := Lib.hid (HW.out.trans hw5)
      have hl5 : ys.length ≤ 8 := (validI_parts hv).2.2.2.2.1
      clear ho5 hr5 hw5
      go_wp2_with (fail)
      refine (spec_frame_any cl ky w5 I5.out hv).mono ?_
      rintro e w6 ⟨A6, n6, c6, rfl, ho6, hb6⟩
      have hn6 : n6 ≤ 13 := by have := ho6.len; rw [frameL_len] at this; omega
      have hz6 := W5.out.size
      have F6 := Lib.hid ho6.is
      have O6 := Lib.hid (O5.out.below hb6 (Nat.le_refl _))
      have R6 := Lib.hid (R5.out.below (hb6.mono R5.out.lt))
      have W6 := Lib.hid (W5.out.trans (Rd.of_below hb6))
      have hz7 := W6.out.size
      clear ho6 hb6 hv
      go_wp2_with (at_builtin; go_must (refine wpList_append_is _ rfl (.tmp 13) (.tmp 16) _ rfl w.heap.size 3 infoInt Try.underlying23 _ _ _ _ rfl O6.out _ _ _ _ rfl F6.out (by omega) (by first | omega | (simp; done) | (simp; omega)) ?_); intro A7 c7 w7 hown7 hg7; have O7 := Lib.hid hown7; have G7 := Lib.hid (row_of hg7); clear hown7 hg7)
      have R7 := Lib.hid (R6.out.row G7.out (O6.out.ge.mono hr))
      have W7 := Lib.hid (W6.out.row G7.out O6.out.ge)
      refine (pick_any r _ 4 _ R7.out (by omega) (by omega)).mono ?_
      rintro e w8 ⟨k, rfl, hk0, hk1, hr8, hw8⟩
      have O8 := Lib.hid (O7.out.rd hw8 hr)
      have R8 := Lib.hid hr8
      have W8 := Lib.hid (W7.out.trans hw8)
      clear hr8 hw8 hk1 O5 R5 W5 O6 R6 W6 O7 R7 W7 G7
      obtain ⟨i, rfl⟩ : ∃ i, j' = i + 1 := ⟨j' - 1, by omega⟩
      by_cases e8 : k = 0
      · subst e8
        go_wp2_with (fail)
        refine (one_any (xs := [165, 0, 7, 255]) (fun _ => True) r _ _ (R8.out.below ((below_new w8 _).mono (by have := W8.out.size; omega))) (by omega) (by simpa using OW.lit w8 3 (r + 1) [165, 0, 7, 255] (by have := W8.out.size; omega) (by simp)) (by omega) (by omega) (by simp)).mono ?_
        rintro e w9 ⟨v, rfl, _, hr9, hw9⟩
        have hz8 := W8.out.size
        have hz9 := hw9.size
        simp at hz9
        have O9 := Lib.hid (((O8.out.alloc _).rd hw9 hr).alloc (.cells #[.int .i64 v] 3))
        have HSv : Hid (IS (w9.alloc (.cells #[.int .i64 v] 3)) (some ⟨w9.heap.size, 0, none⟩) 1 1 [v]) := Lib.hid (by simpa using (OW.lit w9 3 0 [v] (by simp) (by simp)).is)
        have R9 := Lib.hid (hr9.below ((below_new w9 (.cells #[.int .i64 v] 3)).mono (by omega)))
        have W9 := Lib.hid ((W8.out.alloc _ |>.trans hw9).alloc (.cells #[.int .i64 v] 3))
        have hz10 := W9.out.size
        clear hr9 hw9
        go_wp2_with (at_builtin; go_must (refine wpList_append_is _ rfl (.tmp 21) (.tmp 25) _ rfl w.heap.size 3 infoInt Try.underlying23 _ _ _ _ rfl O9.out _ _ _ _ rfl HSv.out (by omega) (by first | omega | (simp; done) | (simp; omega)) ?_); intro A10 c10 w10 hown10 hg10; have O10 := Lib.hid hown10; have G10 := Lib.hid (row_of hg10); clear hown10 hg10)
        go_roundw
        case rel => exact ⟨i, d + 1, _, c10, A10, _, rfl, by go_num, by omega, by omega, O10, Lib.hid ((R9.out.row G10.out (O9.out.ge.mono hr)).mono (by omega)), Lib.hid (W9.out.row G10.out O9.out.ge)⟩
        case measure => simp [intOf]; try omega
      · have d8 : (k == 0) = false := by simpa using e8
        go_wp2_with (fail)
        go_roundw
        case rel => exact ⟨i, d + 1, _, c7, A7, _, rfl, by go_num, by omega, by omega, O8, Lib.hid (R8.out.mono (by omega)), W8⟩
        case measure => simp [intOf]; try omega
    · have hj0 : j' = 0 := by omega
      subst hj0
      rcases n with _ | n'
      · go_wp2_with (fail)
        go_ret
        exact ⟨_, _, 0, c, rfl, by omega, HO.out, HR.out.mono (by omega), HW.out⟩
      obtain ⟨g, eA, hg1, hg2⟩ := HO.out.pos (by omega)
      subst eA
      have hnc := HO.out.is.2.1
      have hp0 : (0 : Int) < (n' : Int) + 1 := by omega
      have hp1 : ¬ (60 : Int) < (n' : Int) + 1 := by omega
      have hp2 : min ((n' : Int) + 1) 60 = (n' : Int) + 1 := by omega
      have hp3 : (n' : Int) + 1 ≤ (c : Int) := by omega
      go_wp2_with (fail)
      refine (pick_any r _ 3 wr HR.out (by omega) (by omega)).mono ?_
      rintro e w1 ⟨k, rfl, hk0, hk1, hr1, hw1⟩
      have O1 := Lib.hid (HO.out.rd hw1 hr)
      have R1 := Lib.hid hr1
      have W1 := Lib.hid (HW.out.trans hw1)
      clear hr1 hw1 hk1 HO HR HW
      by_cases e1 : k = 0
      · subst e1
        go_wp2_with (fail)
        refine (pick_any r _ _ _ R1.out (by omega) (by omega)).mono ?_
        rintro e w2 ⟨k2, rfl, hk20, hk21, hr2, hw2⟩
        obtain ⟨k2, rfl⟩ := Int.eq_ofNat_of_zero_le hk20
        have hk22 := hk21 (by omega)
        have O2 := Lib.hid (O1.out.rd hw2 hr)
        have R2 := Lib.hid hr2
        have W2 := Lib.hid (W1.out.trans hw2)
        clear hr2 hw2 hk21
        go_wp2_with (fail)
        refine (pick_any r _ 250 _ R2.out (by omega) (by omega)).mono ?_
        rintro e w3 ⟨k3, rfl, hk30, hk31, hr3, hw3⟩
        have O3 := Lib.hid (O2.out.rd hw3 hr)
        have R3 := Lib.hid hr3
        have W3 := Lib.hid (W2.out.trans hw3)
        clear hr3 hw3 hk31
        have hz3 := W3.out.size
        go_wp2_with (fail)
        refine (one_any (xs := [0, 165, k3, 255]) (fun _ => True) r _ _ (R3.out.below ((below_new w3 _).mono (by omega))) (by omega) (by simpa using OW.lit w3 3 (r + 1) [0, 165, k3, 255] (by omega) (by simp)) (by omega) (by omega) (by simp)).mono ?_
        rintro e w4 ⟨v, rfl, _, hr4, hw4⟩
        have O4 := Lib.hid ((O3.out.alloc _).rd hw4 hr)
        have R4 := Lib.hid hr4
        have W4 := Lib.hid ((W3.out.alloc _).trans hw4)
        clear hr4 hw4
        obtain ⟨b', o', u, eB, hx, hc⟩ := O4.out.is.at_ (k := k2) (by omega)
        simp only [Option.some.injEq, Addr.mk.injEq, and_true] at eB
        obtain ⟨rfl, rfl⟩ := eB
        simp only [Nat.zero_add] at hc
        have hf := World.ownsRow.frozenAt O4.out k2
        have O5 := Lib.hid (O4.out.storedS k2 v)
        have R5 := Lib.hid (R4.out.below ((Below.refl (r + 1) w4).setCell (p := ⟨g, k2, none⟩) (show r + 1 ≤ g by omega) (.int .i64 v)))
        have W5 := Lib.hid (W4.out.setCell (p := ⟨g, k2, none⟩) hg1 (.int .i64 v))
        go_wp2_with (fail)
        refine (pick_any r _ 6 _ R5.out (by omega) (by omega)).mono ?_
        rintro e w6 ⟨k6, rfl, hk60, hk61, hr6, hw6⟩
        have O6 := Lib.hid (O5.out.rd hw6 hr)
        have R6 := Lib.hid hr6
        have W6 := Lib.hid (W5.out.trans hw6)
        clear hr6 hw6 hk61
        by_cases e6 : k6 = 0
        · subst e6
          go_wp2_with (fail)
          refine (pick_any r _ _ _ R6.out (by omega) (by omega)).mono ?_
          rintro e w7 ⟨k7, rfl, hk70, hk71, hr7, hw7⟩
          obtain ⟨k7, rfl⟩ := Int.eq_ofNat_of_zero_le hk70
          have hk72 := hk71 (by omega)
          have O7 := Lib.hid (O6.out.rd hw7 hr)
          have R7 := Lib.hid hr7
          have W7 := Lib.hid (W6.out.trans hw7)
          clear hr7 hw7 hk71
          have hk73 : (k7 : Int) ≤ (c : Int) := by omega
          have hk74 : ¬ (60 : Int) < (k7 : Int) := by omega
          have hk75 : min (k7 : Int) 60 = (k7 : Int) := by omega
          have hk76 : k7 ≤ n' + 1 := by omega
          go_wp2_with (fail)
          go_ret
          exact ⟨_, _, k7, c, rfl, by omega, O7.out.cutTo hk76, R7.out.mono (by omega), W7.out⟩
        have d6 : (k6 == 0) = false := by simpa using e6
        go_wp2_with (fail)
        go_ret
        exact ⟨_, _, n' + 1, c, rfl, by omega, O6.out, R6.out.mono (by omega), W6.out⟩
      have d1 : (k == 0) = false := by simpa using e1
      go_wp2_with (fail)
      refine (pick_any r _ 6 _ R1.out (by omega) (by omega)).mono ?_
      rintro e w6 ⟨k6, rfl, hk60, hk61, hr6, hw6⟩
      have O6 := Lib.hid (O1.out.rd hw6 hr)
      have R6 := Lib.hid hr6
      have W6 := Lib.hid (W1.out.trans hw6)
      clear hr6 hw6 hk61
      by_cases e6 : k6 = 0
      · subst e6
        go_wp2_with (fail)
        refine (pick_any r _ _ _ R6.out (by omega) (by omega)).mono ?_
        rintro e w7 ⟨k7, rfl, hk70, hk71, hr7, hw7⟩
        obtain ⟨k7, rfl⟩ := Int.eq_ofNat_of_zero_le hk70
        have hk72 := hk71 (by omega)
        have O7 := Lib.hid (O6.out.rd hw7 hr)
        have R7 := Lib.hid hr7
        have W7 := Lib.hid (W6.out.trans hw7)
        clear hr7 hw7 hk71
        have hk73 : (k7 : Int) ≤ (c : Int) := by omega
        have hk74 : ¬ (60 : Int) < (k7 : Int) := by omega
        have hk75 : min (k7 : Int) 60 = (k7 : Int) := by omega
        have hk76 : k7 ≤ n' + 1 := by omega
        go_wp2_with (fail)
        go_ret
        exact ⟨_, _, k7, c, rfl, by omega, O7.out.cutTo hk76, R7.out.mono (by omega), W7.out⟩
      have d6 : (k6 == 0) = false := by simpa using e6
      go_wp2_with (fail)
      go_ret
      exact ⟨_, _, n' + 1, c, rfl, by omega, O6.out, R6.out.mono (by omega), W6.out⟩
end Go.Proofs.Ytehbkfgcbeldiaa
