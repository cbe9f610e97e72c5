/-
  Drawn arguments of the laws on times of batches.
-/
import Derived.Test.YtdfhhjdefmogbaaGenB
import Derived.Deep.RegionHeld3
import Derived.Deep.DeepMust
namespace Go.Proofs.Ytdfhhjdefmogbaa
open Go.RowKit

set_option maxHeartbeats 4000000 in
theorem someTimes_any (r N m : Nat) (w : World) (h : RD w 41 r N) (hN : N ≤ 800000) (hm : m ≤ 13) :
    Calls Try.prog 21 #[.pointer (some ⟨r, 0, none⟩), .int .i64 (m : Int)] w (DrewInts 41 w r (N + 18) 14) := by
  have hr := h.lt
  have H := Lib.hid h
  clear h
  go_enter Try.func21, Try.ntmps21
  go_wp2_with (fail)
  refine (pick_any r N 30 _ (H.out.below ((below_new w _).mono hr)) (by omega) (by omega)).mono ?_
  rintro e w1 ⟨v0, rfl, hv00, hv01, hr1, hw1⟩
  have hv02 := hv01 (by omega)
  have R1 := Lib.hid (hr1.mono (show N + 1 ≤ N + 1 + (13 - m) by omega))
  have W1 := Lib.hid ((Rd.of_below (below_new w (.cells #[] 3))).trans hw1)
  have hO : OW (w.alloc (.cells #[] 3)) 3 w.heap.size (some ⟨w.heap.size, 0, none⟩) 0 0 [] := by simpa using OW.lit w 3 w.heap.size [] (Nat.le_refl _) (by simp)
  have O1 := Lib.hid (hO.rd hw1 hr)
  clear hv01 hr1 hw1 hO
  go_wp2_with (fail)
  go_loopw [5, 6, 7] (fun l v i wr => ∃ (j : Nat) (x : Int) (xs : List Int) (A1 : Option Addr) (n1 c1 : Nat), j + n1 ≤ 13 ∧ 0 ≤ x ∧ x ≤ 30 + 20 * n1 ∧ i = .int .i64 (j : Int) ∧ v = .int .i64 x ∧ l = .slice A1 n1 c1 ∧ Hid (OW wr 3 w.heap.size A1 n1 c1 xs) ∧ Hid (RD wr 41 r (N + 1 + (13 - j))) ∧ Hid (Rd w wr r)) (fun _ _ i _ => (intOf i).toNat)
  case atStart => exact ⟨m, v0, [], _, 0, 0, by omega, hv00, by omega, rfl, rfl, rfl, O1, R1, W1⟩
  case round =>
    obtain ⟨j, x, xs, A1, n1, c1, hj, hx0, hx1, rfl, rfl, rfl, ho, hd, hg⟩ := hrel
    clear O1 R1 W1
    have hsz := hg.out.size
    by_cases h0 : 0 < j
    · have h0' : (0 : Int) < (j : Int) := by omega
      have O7 := Lib.hid (ho.out.alloc (.cells #[.int .i64 x] 3))
      have SV : Hid (IS (wr.alloc (.cells #[.int .i64 x] 3)) (some ⟨wr.heap.size, 0, none⟩) 1 1 [x]) := Lib.hid (by simpa using (OW.lit wr 3 0 [x] (by simp) (by simp)).is)
      have R7 := Lib.hid (hd.out.below ((below_new wr (.cells #[.int .i64 x] 3)).mono (by omega)))
      have W7 := Lib.hid (hg.out.alloc (.cells #[.int .i64 x] 3))
      go_wp2_with (at_builtin; go_must (refine wpList_append_is _ rfl (.tmp 16) (.tmp 18) _ rfl w.heap.size 3 infoInt Try.underlying22 _ _ _ _ rfl O7.out _ _ _ _ rfl SV.out (by omega) (by simp; omega) ?_); intro A8 c8 w8 hown8 hg8; have O8 := Lib.hid hown8; have G8 := Lib.hid (row_of hg8); have hz8 := hg8.size; simp at hz8; have R8 := Lib.hid (R7.out.row G8.out (O7.out.ge.mono (by omega))); have W8 := Lib.hid (W7.out.row G8.out O7.out.ge); clear hown8 hg8)
      refine (one_any (xs := [0, 1, 5, 20, 3]) (fun y => 0 ≤ y ∧ y ≤ 20) r _ _ (R8.out.below ((below_new w8 _).mono (by omega))) (by omega) (by simpa using OW.lit w8 3 (r + 1) [0, 1, 5, 20, 3] (by omega) (by simp)) (by omega) (by omega) (by simp)).mono ?_
      rintro e w9 ⟨y, rfl, ⟨hy0, hy1⟩, hr9, hw9⟩
      have O9 := Lib.hid ((O8.out.alloc _).rd hw9 hr)
      have R9 := Lib.hid (hr9.mono (show N + 1 + (13 - j) + 1 ≤ N + 1 + (13 - (j - 1)) by omega))
      have W9 := Lib.hid (W8.out.trans ((Rd.of_below (below_new w8 (.cells #[.int .i64 0, .int .i64 1, .int .i64 5, .int .i64 20, .int .i64 3] 3))).trans hw9))
      clear hr9 hw9
      obtain ⟨i, hi⟩ : ∃ i, j = i + 1 := ⟨j - 1, by omega⟩
      have e1 : j - 1 = i := by omega
      rw [e1] at R9
      have hji : (j : Int) - 1 = (i : Int) := by omega
      have hw1 : IntKind.i64.wrap ((j : Int) - 1) = (i : Int) := by rw [IntKind.wrap_i64]; omega
      go_wp2_with (fail)
      go_roundw
      case rel => exact ⟨i, x + y, xs ++ [x], A8, n1 + 1, c8, by omega, by omega, by omega, by first | rfl | go_num, by first | rfl | go_num, rfl, O9, R9, W9⟩
      case measure => simp [intOf]; omega
    · have h0' : ¬ (0 : Int) < (j : Int) := by omega
      have hge : Ge A1 (r + 1) := ho.out.ge.mono (by omega)
      go_wp2_with (fail)
      refine (spoil_any r _ 1001 wr hd.out (by omega) ho.out.is (by omega)).mono ?_
      rintro e w9 ⟨ys, A9, n9, c9, rfl, hn9, i9, g9, hr9, hw9⟩
      have I9 := Lib.hid i9
      have R9 := Lib.hid (hr9.mono (show N + 1 + (13 - j) + 3 ≤ N + 18 by omega))
      have W9 := Lib.hid (hg.out.trans hw9)
      have G9 := Lib.hid (g9.mono hsz)
      clear i9 g9 hr9 hw9
      go_wp2_with (fail)
      go_ret
      exact ⟨ys, A9, n9, c9, rfl, by omega, I9.out, G9.out, R9.out, W9.out⟩
set_option maxHeartbeats 4000000 in
theorem spec_DrawFlushTimes_any {A : Option Addr} {n c : Nat} {zs : List Int} (w : World) (h : BS w A n c zs) (hn : n ≤ 1048576) :
    Calls Try.prog 13 #[.slice A n c] w fun e w' => ∃ (xs : List Int) (A1 : Option Addr) (n1 c1 : Nat) (a m : Int), e = .returned (.tuple #[.slice A1 n1 c1, .int .i64 a, .int .i64 m]) ∧ n1 ≤ 14 ∧ (-1 ≤ a ∧ a ≤ 101) ∧ (0 ≤ m ∧ m ≤ 13) ∧ IS w' A1 n1 c1 xs ∧ Below w.heap.size w w' := by
  have H := Lib.hid h
  clear h
  go_enter Try.func13, Try.ntmps13
  go_wp2_with (fail)
  refine (newReader_any _ H.out hn).mono ?_
  rintro e w1 ⟨rfl, hr1, hb1⟩
  have R1 := Lib.hid hr1
  have B1 := Lib.hid hb1
  have hz1 := hr1.lt
  clear hr1 hb1
  go_wp2_with (fail)
  refine (one_any (xs := [5, 8, 3, 12, 1, 0, 13]) (fun x => 0 ≤ x ∧ x ≤ 13) w.heap.size 0 _ (R1.out.below ((below_new w1 _).mono (by omega))) (by omega) (by simpa using OW.lit w1 3 (w.heap.size + 1) [5, 8, 3, 12, 1, 0, 13] (by omega) (by simp)) (by omega) (by omega) (by simp)).mono ?_
  rintro e w2 ⟨k0, rfl, ⟨hk0, hk1⟩, hr2, hw2⟩
  have R2 := Lib.hid hr2
  have W2 := Lib.hid ((Rd.of_below (below_new w1 _)).trans hw2)
  have hz2 := hr2.lt
  clear hr2 hw2
  obtain ⟨k, rfl⟩ := Int.eq_ofNat_of_zero_le hk0
  go_wp2_with (fail)
  refine (someTimes_any w.heap.size 1 k w2 R2.out (by omega) (by omega)).mono ?_
  rintro e w3 ⟨xs, A1, n1, c1, rfl, hn1, i1, g1, hr3, hw3⟩
  have I3 := Lib.hid i1
  have G3 := Lib.hid (g1.mono (show w.heap.size + 1 ≤ w2.heap.size by omega))
  have R3 := Lib.hid hr3
  have W3 := Lib.hid (W2.out.trans hw3)
  have hz3 := hr3.lt
  clear i1 g1 hr3 hw3
  go_wp2_with (fail)
  refine (one_any (xs := [10, 0, 5, 100, 20, -1, 101]) (fun x => -1 ≤ x ∧ x ≤ 101) w.heap.size _ _ (R3.out.below ((below_new w3 _).mono (by omega))) (by omega) (by simpa using OW.lit w3 3 (w.heap.size + 1) [10, 0, 5, 100, 20, -1, 101] (by omega) (by simp)) (by omega) (by omega) (by simp)).mono ?_
  rintro e w4 ⟨a, rfl, ha, hr4, hw4⟩
  have I4 := Lib.hid ((I3.out.alloc _).rd hw4 G3.out)
  have R4 := Lib.hid hr4
  have W4 := Lib.hid (W3.out.trans ((Rd.of_below (below_new w3 _)).trans hw4))
  have hz4 := hr4.lt
  clear hr4 hw4
  go_wp2_with (fail)
  refine (one_any (xs := [3, 1, 2, 12, 5, 0, 13]) (fun x => 0 ≤ x ∧ x ≤ 13) w.heap.size _ _ (R4.out.below ((below_new w4 _).mono (by omega))) (by omega) (by simpa using OW.lit w4 3 (w.heap.size + 1) [3, 1, 2, 12, 5, 0, 13] (by omega) (by simp)) (by omega) (by omega) (by simp)).mono ?_
  rintro e w5 ⟨m, rfl, hm, hr5, hw5⟩
  have I5 := Lib.hid ((I4.out.alloc _).rd hw5 G3.out)
  have W5 := Lib.hid (W4.out.trans ((Rd.of_below (below_new w4 _)).trans hw5))
  clear hr5 hw5
  go_wp2_with (fail)
  refine bodyPost_ret (v := .tuple #[.slice A1 n1 c1, .int .i64 a, .int .i64 m]) (by simp [results, Try.results13, go_sem]) rfl ?_
  exact ⟨xs, A1, n1, c1, a, m, rfl, hn1, ha, hm, I5.out, B1.out.trans (W5.out.below (by omega))⟩
end Go.Proofs.Ytdfhhjdefmogbaa
