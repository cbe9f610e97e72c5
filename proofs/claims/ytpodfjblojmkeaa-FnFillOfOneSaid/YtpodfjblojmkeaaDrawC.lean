/-
  Drawn arguments of the laws on sizes of batches.
-/
import Derived.Test.YtpodfjblojmkeaaGenB
import Derived.Deep.RegionHeld3
import Derived.Deep.DeepMust
namespace Go.Proofs.Ytpodfjblojmkeaa
open Go.RowKit

set_option maxHeartbeats 4000000 in
theorem someSizes_any (r N : Nat) (w : World) (h : RD w 41 r N) (hN : N ≤ 800000) :
    Calls Try.prog 31 #[.pointer (some ⟨r, 0, none⟩)] w (DrewInts 41 w r (N + 18) 14) := by
  have hr := h.lt
  have H := Lib.hid h
  clear h
  go_enter Try.func31, Try.ntmps31
  go_wp2_with (fail)
  refine (one_any (xs := [5, 8, 3, 12, 1, 0, 13]) (fun x => 0 ≤ x ∧ x ≤ 13) r N _ (H.out.below (((below_new w _).trans ((below_new _ _).mono (by simp))).mono (by omega))) (by omega) (by simpa using OW.lit (w.alloc (.cells #[] 3)) 3 (r + 1) [5, 8, 3, 12, 1, 0, 13] (by simp; omega) (by simp)) (by omega) (by omega) (by simp)).mono ?_
  rintro e w1 ⟨k0, rfl, ⟨hk0, hk1⟩, hr1, hw1⟩
  obtain ⟨m, rfl⟩ := Int.eq_ofNat_of_zero_le hk0
  have R1 := Lib.hid (hr1.mono (show N + 1 ≤ N + 1 + (13 - m) by omega))
  have W1 := Lib.hid ((Rd.of_below ((below_new w (.cells #[] 3)).trans ((below_new _ (.cells #[.int .i64 5, .int .i64 8, .int .i64 3, .int .i64 12, .int .i64 1, .int .i64 0, .int .i64 13] 3)).mono (by simp)))).trans hw1)
  have hO : OW (w.alloc (.cells #[] 3)) 3 w.heap.size (some ⟨w.heap.size, 0, none⟩) 0 0 [] := by simpa using OW.lit w 3 w.heap.size [] (Nat.le_refl _) (by simp)
  have O1 := Lib.hid ((hO.alloc (.cells #[.int .i64 5, .int .i64 8, .int .i64 3, .int .i64 12, .int .i64 1, .int .i64 0, .int .i64 13] 3)).rd hw1 hr)
  clear hr1 hw1 hO
  go_wp2_with (fail)
  go_loopw [3, 4] (fun l i wr => ∃ (j : Nat) (xs : List Int) (A1 : Option Addr) (n1 c1 : Nat), j + n1 ≤ 13 ∧ i = .int .i64 (j : Int) ∧ l = .slice A1 n1 c1 ∧ Hid (OW wr 3 w.heap.size A1 n1 c1 xs) ∧ Hid (RD wr 41 r (N + 1 + (13 - j))) ∧ Hid (Rd w wr r)) (fun _ i _ => (intOf i).toNat)
  case atStart => exact ⟨m, [], _, 0, 0, by omega, rfl, rfl, O1, R1, W1⟩
  case round =>
    obtain ⟨j, xs, A1, n1, c1, hj, rfl, rfl, ho, hd, hg⟩ := hrel
    clear O1 R1 W1
    have hsz := hg.out.size
    by_cases h0 : 0 < j
    · have h0' : (0 : Int) < (j : Int) := by omega
      go_wp2_with (fail)
      refine (pick_any r _ 20 wr hd.out (by omega) (by omega)).mono ?_
      rintro e w2 ⟨x, rfl, hx0, hx1, hr2, hw2⟩
      have hx2 := hx1 (by omega)
      have R2 := Lib.hid (hr2.mono (show N + 1 + (13 - j) + 1 ≤ N + 1 + (13 - (j - 1)) by omega))
      have W2 := Lib.hid (hg.out.trans hw2)
      have O2 := Lib.hid (ho.out.rd hw2 hr)
      have hz2 := hw2.size
      clear hx1 hr2 hw2
      have O7 := Lib.hid (O2.out.alloc (.cells #[.int .i64 (1 + x)] 3))
      have SV : Hid (IS (w2.alloc (.cells #[.int .i64 (1 + x)] 3)) (some ⟨w2.heap.size, 0, none⟩) 1 1 [1 + x]) := Lib.hid (by simpa using (OW.lit w2 3 0 [1 + x] (by simp) (by simp)).is)
      have R7 := Lib.hid (R2.out.below ((below_new w2 (.cells #[.int .i64 (1 + x)] 3)).mono (by omega)))
      have W7 := Lib.hid (W2.out.alloc (.cells #[.int .i64 (1 + x)] 3))
      obtain ⟨i, hi⟩ : ∃ i, j = i + 1 := ⟨j - 1, by omega⟩
      have e1 : j - 1 = i := by omega
      rw [e1] at R7
      have hji : (j : Int) - 1 = (i : Int) := by omega
      have hw1 : IntKind.i64.wrap ((j : Int) - 1) = (i : Int) := by rw [IntKind.wrap_i64]; omega
      go_wp2_with (at_builtin; go_must (refine wpList_append_is _ rfl (.tmp 13) (.tmp 17) _ rfl w.heap.size 3 infoInt Try.underlying23 _ _ _ _ rfl O7.out _ _ _ _ rfl SV.out (by omega) (by simp; omega) ?_); intro A8 c8 w8 hown8 hg8; have O8 := Lib.hid hown8; have G8 := Lib.hid (row_of hg8); have R8 := Lib.hid (R7.out.row G8.out (O7.out.ge.mono (by omega))); have W8 := Lib.hid (W7.out.row G8.out O7.out.ge); clear hown8 hg8)
      go_roundw
      case rel => exact ⟨i, xs ++ [1 + x], A8, n1 + 1, c8, by omega, by first | rfl | go_num, rfl, O8, R8, W8⟩
      case measure => simp [intOf]; omega
    · have h0' : ¬ (0 : Int) < (j : Int) := by omega
      go_wp2_with (fail)
      refine (spoil_any r _ 21 wr hd.out (by omega) ho.out.is (by omega)).mono ?_
      rintro e w9 ⟨ys, A9, n9, c9, rfl, hn9, i9, g9, hr9, hw9⟩
      have I9 := Lib.hid i9
      have R9 := Lib.hid (hr9.mono (show N + 1 + (13 - j) + 3 ≤ N + 18 by omega))
      have W9 := Lib.hid (hg.out.trans hw9)
      have G9 := Lib.hid (g9.mono hsz)
      clear i9 g9 hr9 hw9
      go_wp2_with (fail)
      go_ret
      exact ⟨ys, A9, n9, c9, rfl, by omega, I9.out, G9.out, R9.out, W9.out⟩
/-- Drawn sizes and two numbers. -/
def DrewCut (w : World) (e : Ending) (w' : World) : Prop :=
  ∃ (xs : List Int) (A1 : Option Addr) (n1 c1 : Nat) (a m : Int), e = .returned (.tuple #[.slice A1 n1 c1, .int .i64 a, .int .i64 m]) ∧ n1 ≤ 14 ∧ (19 ≤ a ∧ a ≤ 201) ∧ (0 ≤ m ∧ m ≤ 13) ∧ IS w' A1 n1 c1 xs ∧ Below w.heap.size w w'
set_option maxHeartbeats 4000000 in
theorem spec_DrawCutBatches_any {A : Option Addr} {n c : Nat} {zs : List Int} (w : World) (h : BS w A n c zs) (hn : n ≤ 1048576) :
    Calls Try.prog 15 #[.slice A n c] w (DrewCut w) := by
  have H := Lib.hid h
  clear h
  go_enter Try.func15, Try.ntmps15
  go_wp2_with (fail)
  refine (newReader_any _ H.out hn).mono ?_
  rintro e w1 ⟨rfl, hr1, hb1⟩
  have R1 := Lib.hid hr1
  have B1 := Lib.hid hb1
  have hz1 := hr1.lt
  clear hr1 hb1
  go_wp2_with (fail)
  refine (someSizes_any w.heap.size 0 w1 R1.out (by omega)).mono ?_
  rintro e w3 ⟨xs, A1, n1, c1, rfl, hn1, i1, g1, hr3, hw3⟩
  have I3 := Lib.hid i1
  have G3 := Lib.hid (g1.mono (show w.heap.size + 1 ≤ w1.heap.size by omega))
  have R3 := Lib.hid hr3
  have W3 := Lib.hid hw3
  have hz3 := hr3.lt
  clear i1 g1 hr3 hw3
  go_wp2_with (fail)
  refine (one_any (xs := [20, 30, 50, 200, 19, 201]) (fun x => 19 ≤ x ∧ x ≤ 201) w.heap.size _ _ (R3.out.below ((below_new w3 _).mono (by omega))) (by omega) (by simpa using OW.lit w3 3 (w.heap.size + 1) [20, 30, 50, 200, 19, 201] (by omega) (by simp)) (by omega) (by omega) (by simp)).mono ?_
  rintro e w4 ⟨a, rfl, ha, hr4, hw4⟩
  have I4 := Lib.hid ((I3.out.alloc _).rd hw4 G3.out)
  have R4 := Lib.hid hr4
  have W4 := Lib.hid (W3.out.trans ((Rd.of_below (below_new w3 _)).trans hw4))
  have hz4 := hr4.lt
  clear hr4 hw4
  go_wp2_with (fail)
  refine (one_any (xs := [3, 1, 2, 12, 5, 0, 13]) (fun x => 0 ≤ x ∧ x ≤ 13) w.heap.size _ _ (R4.out.below ((below_new w4 _).mono (by omega))) (by omega) (by simpa using OW.lit w4 3 (w.heap.size + 1) [3, 1, 2, 12, 5, 0, 13] (by omega) (by simp)) (by omega) (by omega) (by simp)).mono ?_
  rintro e w5 ⟨m, rfl, hm, hr5, hw5⟩
  have I5 := Lib.hid ((I4.out.alloc _).rd hw5 G3.out)
  have W5 := Lib.hid (W4.out.trans ((Rd.of_below (below_new w4 _)).trans hw5))
  clear hr5 hw5
  go_wp2_with (fail)
  refine bodyPost_ret (v := .tuple #[.slice A1 n1 c1, .int .i64 a, .int .i64 m]) (by simp [results, Try.results15, go_sem]) rfl ?_
  exact ⟨xs, A1, n1, c1, a, m, rfl, hn1, ha, hm, I5.out, B1.out.trans (W5.out.below (by omega))⟩
theorem spec_DrawBatchBytes_any {A : Option Addr} {n c : Nat} {zs : List Int} (w : World) (h : BS w A n c zs) (hn : n ≤ 1048576) :
    Calls Try.prog 28 #[.slice A n c] w (DrewCut w) := by
  have H := Lib.hid h
  clear h
  go_enter Try.func28, Try.ntmps28
  go_wp2_with (fail)
  refine (spec_DrawCutBatches_any w H.out hn).mono ?_
  rintro e w1 ⟨xs, A1, n1, c1, a, m, rfl, hn1, ha, hm, i1, hb⟩
  have I1 := Lib.hid i1
  have B1 := Lib.hid hb
  clear i1 hb
  go_wp2_with (fail)
  refine bodyPost_ret (v := .tuple #[.slice A1 n1 c1, .int .i64 a, .int .i64 m]) (by simp [results, Try.results28, go_sem]) rfl ?_
  exact ⟨xs, A1, n1, c1, a, m, rfl, hn1, ha, hm, I1.out, B1.out⟩
theorem spec_DrawFillOf_any {A : Option Addr} {n c : Nat} {zs : List Int} (w : World) (h : BS w A n c zs) (hn : n ≤ 1048576) :
    Calls Try.prog 29 #[.slice A n c] w (DrewCut w) := by
  have H := Lib.hid h
  clear h
  go_enter Try.func29, Try.ntmps29
  go_wp2_with (fail)
  refine (spec_DrawCutBatches_any w H.out hn).mono ?_
  rintro e w1 ⟨xs, A1, n1, c1, a, m, rfl, hn1, ha, hm, i1, hb⟩
  have I1 := Lib.hid i1
  have B1 := Lib.hid hb
  clear i1 hb
  go_wp2_with (fail)
  refine bodyPost_ret (v := .tuple #[.slice A1 n1 c1, .int .i64 a, .int .i64 m]) (by simp [results, Try.results29, go_sem]) rfl ?_
  exact ⟨xs, A1, n1, c1, a, m, rfl, hn1, ha, hm, I1.out, B1.out⟩
end Go.Proofs.Ytpodfjblojmkeaa
